/- An Out of the program's beside one of the document's. The document's end: New, Room, Send. -/
import Derived.Test.YtcadlcpccemkbaaGreatDoorDo
import Derived.Test.YtcadlcpccemkbaaGreatDoorMJwJxJy
import Derived.Test.YtcadlcpccemkbaaGreatDoorMDcDj
namespace Go.Proofs.YtcadlcpccemkbaaGreatDoor
open Go.RowKit
set_option maxRecDepth 100000
attribute [local go_sem] not_any

theorem Rdl.lt {w : World} {u : Value} {l : List ByteArray} (h : Rdl w u l) (hl : l ≠ []) {g : Nat} (hg : u.ownBlock = some g) : g < w.heap.size := by
  obtain ⟨a, c, rfl, hc⟩ := h
  obtain ⟨g', o, rfl, h1⟩ := hc 0 (by cases l with | nil => exact absurd rfl hl | cons => simp)
  cases hg
  exact World.block_lt_of_cell? w _ h1
theorem Rdl.kp2 {F : Nat → Prop} {w w' : World} {v : Value} {l : List ByteArray} (h : Rdl w v l) (hk : Kp F w w') (hF : l ≠ [] → ∀ g, v.ownBlock = some g → ¬ F g) : Rdl w' v l := by
  obtain ⟨a, c, rfl, hc⟩ := h
  refine ⟨a, c, rfl, fun j hj => ?_⟩
  obtain ⟨g, o, rfl, h1⟩ := hc j hj
  exact ⟨g, o, rfl, (World.cell?_of_block (a := ⟨g, _, none⟩) (hk.block g (World.block_lt_of_cell? w _ h1) (hF (fun e => by rw [e] at hj; simp at hj) g rfl))).trans h1⟩

/- what Put leaves of all bodies -/
def poL (b c : Nat) (LL : List ByteArray) (x : ByteArray) : List ByteArray := if ptC (b + c) (LL.drop c) = 0 then LL ++ [x] else LL
/- how many have come behind Ack -/
def koC (b c : Nat) (LL : List ByteArray) (q : Nat) : Nat := if akC (b + c) (LL.drop c) q = 0 then max c (q - 1 - b) else c
structure Lim (b c : Nat) (LL : List ByteArray) : Prop where
  le : c ≤ LL.length
  room : LL.length - c ≤ 16
  last : b + LL.length ≤ 4294967294
  sz : Szl LL
theorem po_drop {b c : Nat} {LL : List ByteArray} {x : ByteArray} (h : c ≤ LL.length) : ptL (b + c) (LL.drop c) x = (poL b c LL x).drop c := by
  unfold ptL poL
  split
  · rw [List.drop_append_of_le_length h]
  · rfl
theorem ko_drop {b c q : Nat} {LL : List ByteArray} : akL (b + c) (LL.drop c) q = LL.drop (koC b c LL q) ∧ akK (b + c) (LL.drop c) q = b + koC b c LL q := by
  unfold akL akK koC
  split
  · refine ⟨?_, by omega⟩
    rw [List.drop_drop]
    congr 1
    omega
  · exact ⟨rfl, rfl⟩
theorem Lim.put {b c : Nat} {LL : List ByteArray} {x : ByteArray} (h : Lim b c LL) (hx : x.size ≤ 281474976710656) : Lim b c (poL b c LL x) ∧ (poL b c LL x).length ≤ LL.length + 1 := by
  obtain ⟨h1, h2, h3, h4⟩ := h
  unfold poL
  split
  · rename_i hc
    unfold ptC at hc
    rw [List.length_drop] at hc
    split at hc
    · cases hc
    · split at hc
      · cases hc
      · refine ⟨⟨by simp; omega, by simp; omega, by simp; omega, fun s hs => ?_⟩, by simp⟩
        rcases List.mem_append.1 hs with e | e
        · exact h4 s e
        · simp only [List.mem_singleton] at e
          rw [e]
          exact hx
  · exact ⟨⟨h1, h2, h3, h4⟩, by omega⟩
theorem Lim.ack {b c q : Nat} {LL : List ByteArray} (h : Lim b c LL) : Lim b (koC b c LL q) LL := by
  obtain ⟨h1, h2, h3, h4⟩ := h
  unfold koC
  split
  · rename_i hc
    unfold akC at hc
    rw [List.length_drop] at hc
    split at hc
    · cases hc
    · exact ⟨by omega, by omega, h3, h4⟩
  · exact ⟨h1, h2, h3, h4⟩

theorem rput_any (b n c cp : Nat) (a : Option Addr) (x : ByteArray) {LL : List ByteArray} {w : World} (hL : Rdl w (.slice a n cp) LL) (hl : Lim b c LL) (hn : LL.length ≤ 1000) :
    Calls Tryz.prog 88 #[.agg #[.int .i64 (b : Int), .slice a n cp, .int .i64 (c : Int)], .string x] w fun e w' => ∃ u, e = .returned (.tuple #[.agg #[.int .i64 (b : Int), u, .int .i64 (c : Int)], .int .i64 (ptN (b + c) (LL.drop c) : Int), .int .i64 (ptC (b + c) (LL.drop c) : Int)]) ∧ Rdl w' u (poL b c LL x) ∧ Below w.heap.size w w' ∧ (poL b c LL x ≠ [] → ∀ g, u.ownBlock = some g → ((Value.slice a n cp).ownBlock = some g ∧ g < w.heap.size ∧ LL ≠ []) ∨ w.heap.size ≤ g) := by
  obtain ⟨h1, h2, h3, h4⟩ := hl
  have hLN : LL.length = n := by obtain ⟨_, _, e, _⟩ := hL; cases e; rfl
  have hl : (LL.drop c).length = n - c := by rw [List.length_drop, hLN]
  have hs : b + c + (n - c) + 1 = b + n + 1 := by omega
  have fin : ∀ (C : Nat), (Calls Tryz.prog 88 #[.agg #[.int .i64 (b : Int), .slice a n cp, .int .i64 (c : Int)], .string x] w fun e w' => e = .returned (.tuple #[.agg #[.int .i64 (b : Int), .slice a n cp, .int .i64 (c : Int)], .int .i64 0, .int .i64 (C : Int)]) ∧ Below w.heap.size w w') →
      Calls Tryz.prog 88 #[.agg #[.int .i64 (b : Int), .slice a n cp, .int .i64 (c : Int)], .string x] w fun e w' => ∃ u, e = .returned (.tuple #[.agg #[.int .i64 (b : Int), u, .int .i64 (c : Int)], .int .i64 ((0 : Nat) : Int), .int .i64 (C : Int)]) ∧ Rdl w' u LL ∧ Below w.heap.size w w' ∧ (LL ≠ [] → ∀ g, u.ownBlock = some g → ((Value.slice a n cp).ownBlock = some g ∧ g < w.heap.size ∧ LL ≠ []) ∨ w.heap.size ≤ g) := fun C k => by
    refine k.mono ?_
    rintro e w' ⟨rfl, hb⟩
    exact ⟨_, rfl, hL.below hb (Nat.le_refl _), hb, fun hl g hg => .inl ⟨hg, hL.lt hl hg, hl⟩⟩
  unfold poL ptN ptC
  rw [hl, hs]
  by_cases h16 : 16 ≤ n - c
  · rw [if_pos h16, if_neg (by omega), if_neg (by omega)]
    exact fin 23 (rput_full b n c cp a x w (by omega) (by omega) h16)
  · rw [if_neg h16]
    by_cases h24 : 4294967294 < b + n + 1
    · rw [if_pos h24, if_neg (by omega), if_neg (by omega)]
      exact fin 24 (rput_last b n c cp a x w (by omega) (by omega) (by omega) h16 h24)
    · rw [if_neg h24, if_pos rfl, if_pos rfl]
      refine (rput_ok b n c cp a x hL (by omega) (by omega) (by omega) h16 h24).mono ?_
      rintro e w' ⟨u, rfl, k1, k2⟩
      exact ⟨u, rfl, k1.rd, k2, fun _ g hg => .inr (k1.lt hg).1⟩

theorem rack_any (b n c cp : Nat) (a : Option Addr) (q : Nat) {LL : List ByteArray} {w : World} (hn0 : LL.length = n) (hl : Lim b c LL) (hn : LL.length ≤ 1000) (hq : q < 4294967296) :
    Calls Tryz.prog 60 #[.agg #[.int .i64 (b : Int), .slice a n cp, .int .i64 (c : Int)], .int .i64 (q : Int)] w fun e w' => e = .returned (.tuple #[.agg #[.int .i64 (b : Int), .slice a n cp, .int .i64 (koC b c LL q : Int)], .int .i64 (akC (b + c) (LL.drop c) q : Int)]) ∧ Below w.heap.size w w' := by
  obtain ⟨h1, h2, h3, h4⟩ := hl
  have hl : (LL.drop c).length = n - c := by rw [List.length_drop, hn0]
  have hs : b + c + (n - c) + 1 = b + n + 1 := by omega
  unfold koC akC
  rw [hl, hs]
  by_cases h0 : q = 0
  · have e : (if q = 0 ∨ b + n + 1 < q then 22 else 0) = 22 := if_pos (.inl h0)
    rw [e, if_neg (by omega)]
    subst h0
    exact rack_none b n c cp a w
  · by_cases h5 : b + n + 1 < q
    · have e : (if q = 0 ∨ b + n + 1 < q then 22 else 0) = 22 := if_pos (.inr h5)
      rw [e, if_neg (by omega)]
      exact rack_gap b n c cp a q w (by omega) (by omega) h5
    · have e : (if q = 0 ∨ b + n + 1 < q then 22 else 0) = 0 := if_neg (by omega)
      rw [e, if_pos rfl]
      by_cases h6 : q - 1 - b ≤ c
      · rw [show max c (q - 1 - b) = c by omega]
        exact rack_old b n c cp a q w (by omega) (by omega) h0 (by omega) hq h6
      · rw [show max c (q - 1 - b) = q - 1 - b by omega]
        exact rack_new b n c cp a q w (by omega) (by omega) h0 (by omega) hq (by omega)

/- both in memory -/
/- what a call of the document's leaves, its box among it -/
end Go.Proofs.YtcadlcpccemkbaaGreatDoor

namespace Go.Proofs.YtcadlcpccemkbaaGreatDoor
open Go.RowKit
set_option maxRecDepth 100000
attribute [local go_sem] not_any

/- the document's end as a value -/
def rcs (x : Ls) (LLv hv lv : Value) : Array Value := #[.int .u32 (x.own : Int), .int .u32 (x.peer : Int), .bool x.sure, .int .i64 0, LLv, .int .i64 (x.k : Int), .int .i64 ((x.a : Int) + 1), hv, lv, .bool x.owed]
def rv (x : Ls) (LLv hv lv : Value) : Value := .agg (rcs x LLv hv lv)
/- a slice with room for what it has -/
def Cp (v : Value) : Prop := ∃ a n c, v = .slice a n c ∧ n ≤ c
theorem Cp.nil : Cp (.slice none 0 0) := ⟨_, _, _, rfl, Nat.le_refl _⟩
theorem Lst.cp {B : Nat} {w : World} {v : Value} {A : List ByteArray} (h : Lst B w v A) : Cp v := by
  rcases h.2 with ⟨rfl, _⟩ | ⟨g, cap, cur, rfl, _, _, h1, _⟩
  · exact Cp.nil
  · exact ⟨_, _, _, rfl, h1⟩
/- its lists: all bodies, what is held, the line -/
structure Rf (x : Ls) (LL : List ByteArray) (LLv hv lv : Value) (w : World) : Prop where
  ll : Rdl w LLv LL
  hl : Rnl w hv x.l
  ql : Rdl w lv x.Q
  le : x.k ≤ LL.length
  eq : LL.drop x.k = x.A
  mx : LL.length ≤ 1000
  sz : Szl LL
  cp : Cp lv
/- blocks that it reads -/
def Ro (x : Ls) (LL : List ByteArray) (LLv hv lv : Value) (g : Nat) : Prop := (LL ≠ [] ∧ LLv.ownBlock = some g) ∨ (x.l ≠ [] ∧ hv.ownBlock = some g) ∨ (x.Q ≠ [] ∧ lv.ownBlock = some g)
theorem Rf.kp {F : Nat → Prop} {x : Ls} {LL : List ByteArray} {LLv hv lv : Value} {w w' : World} (h : Rf x LL LLv hv lv w) (hk : Kp F w w') (hF : ∀ g, Ro x LL LLv hv lv g → ¬ F g) : Rf x LL LLv hv lv w' :=
  ⟨h.ll.kp2 hk fun hn g hg => hF g (.inl ⟨hn, hg⟩), h.hl.kp2 hk fun hn g hg => hF g (.inr (.inl ⟨hn, hg⟩)), h.ql.kp2 hk fun hn g hg => hF g (.inr (.inr ⟨hn, hg⟩)), h.le, h.eq, h.mx, h.sz, h.cp⟩
theorem Rf.below {x : Ls} {LL : List ByteArray} {LLv hv lv : Value} {w w' : World} (h : Rf x LL LLv hv lv w) (hb : Below w.heap.size w w') : Rf x LL LLv hv lv w' :=
  h.kp (F := fun _ => False) (Kp.ofBelow hb) fun _ _ h => h
theorem Rf.lt {x : Ls} {LL : List ByteArray} {LLv hv lv : Value} {w : World} (h : Rf x LL LLv hv lv w) {g : Nat} (hg : Ro x LL LLv hv lv g) : g < w.heap.size := by
  rcases hg with ⟨a, b⟩ | ⟨a, b⟩ | ⟨a, b⟩
  · exact h.ll.lt a b
  · exact h.hl.lt a b
  · exact h.ql.lt a b

theorem box10 {w : World} {g : Nat} {x0 x1 x2 x3 x4 x5 x6 x7 x8 x9 : Value} {t : TypeId} (h : w.heap[g]? = some (.cells #[x0, x1, x2, x3, x4, x5, x6, x7, x8, x9] t (0, 0))) : (w.cell? ⟨g, 0, none⟩ = some x0 ∧ w.cell? ⟨g, 1, none⟩ = some x1 ∧ w.cell? ⟨g, 2, none⟩ = some x2 ∧ w.cell? ⟨g, 3, none⟩ = some x3 ∧ w.cell? ⟨g, 4, none⟩ = some x4) ∧ (w.cell? ⟨g, 5, none⟩ = some x5 ∧ w.cell? ⟨g, 6, none⟩ = some x6 ∧ w.cell? ⟨g, 7, none⟩ = some x7 ∧ w.cell? ⟨g, 8, none⟩ = some x8 ∧ w.cell? ⟨g, 9, none⟩ = some x9) ∧ (∀ j, w.frozen? ⟨g, j, none⟩ = false) ∧ g < w.heap.size :=
  ⟨⟨by rw [cell_of_row w g 0 _ _ _ h]; rfl, by rw [cell_of_row w g 1 _ _ _ h]; rfl, by rw [cell_of_row w g 2 _ _ _ h]; rfl, by rw [cell_of_row w g 3 _ _ _ h]; rfl, by rw [cell_of_row w g 4 _ _ _ h]; rfl⟩, ⟨by rw [cell_of_row w g 5 _ _ _ h]; rfl, by rw [cell_of_row w g 6 _ _ _ h]; rfl, by rw [cell_of_row w g 7 _ _ _ h]; rfl, by rw [cell_of_row w g 8 _ _ _ h]; rfl, by rw [cell_of_row w g 9 _ _ _ h]; rfl⟩, fun j => frozen_of_row w g j _ _ h, lt_heap h⟩
theorem sz10 {cs : Array Value} (hs : cs.size = 10) : Option.map (fun x => x.size) (Tryz.prog.info? 39) = some cs.size := by
  have h : Option.map (fun x => x.size) (Tryz.prog.info? 39) = some 10 := by kernel_rfl
  rw [hs]
  exact h
theorem ret_l1 {fn : Func} {p : Tmp} (h : fn.results = #[.cell p 39]) {R : Ending → World → Prop} {a : Act} {w : World} (g : Nat) (cs : Array Value) (hs : cs.size = 10) (hp : a.tmps.getD p undef = .pointer (some ⟨g, 0, none⟩))
    (hg : w.heap[g]? = some (.cells cs 39 (0, 0))) (hd : a.defers = []) (hR : R (.returned (.agg cs)) w) : bodyPost Tryz.prog fn R .ret a w :=
  bodyPost_ret_by (results_cell_row h a.tmps w g 39 cs (0, 0) _ hp hg Tryz.underlying39 rfl (sz10 hs)) hd hR
theorem ret_l2 {fn : Func} {p u : Tmp} (h : fn.results = #[.cell p 39, .tmp u]) {R : Ending → World → Prop} {a : Act} {w : World} (g : Nat) (cs : Array Value) (v : Value) (hs : cs.size = 10) (hp : a.tmps.getD p undef = .pointer (some ⟨g, 0, none⟩))
    (hu : a.tmps.getD u undef = v) (hg : w.heap[g]? = some (.cells cs 39 (0, 0))) (hd : a.defers = []) (hR : R (.returned (.tuple #[.agg cs, v])) w) : bodyPost Tryz.prog fn R .ret a w := by
  refine bodyPost_ret_by (v := .tuple #[.agg cs, v]) ?_ hd hR
  have hl := run_loadVar_row (P := Tryz.prog) w g 39 39 cs (0, 0) _ hg Tryz.underlying39 rfl (sz10 hs)
  rw [results_cell_tmp h, hp, hu]
  simp [asAddr, hl, Result.andThen]

theorem rnew_any (own : Nat) (w : World) : Calls Tryz.prog 8 #[.int .u32 (own : Int)] w fun e w' => e = .returned (rv (Ls.new own) (.slice none 0 0) (.slice none 0 0) (.slice none 0 0)) ∧ Below w.heap.size w w' := by
  unfold rv rcs Ls.new
  go_enter Tryz.func8, Tryz.ntmps8
  go_upto_region 1 with (fail)
  generalize hX : World.alloc w _ = WX
  have HX : Hid (Below w.heap.size w WX) := by rw [← hX]; exact below1 _
  have R0 := hide1 (hX ▸ heap_alloc_new w _)
  obtain ⟨g, hg⟩ : ∃ g, w.heap.size = g := ⟨_, rfl⟩
  have HG := hide1 hg
  rw [hg] at R0 ⊢
  clear hX hg
  go_wp2_with (refine wpList_store_row rfl 39 (.tmp 2) (.tmp 5) rfl g #[.int .u32 (own : Int), .int .u32 0, .bool false, .int .i64 0, .slice none 0 0, .int .i64 0, .int .i64 1, .slice none 0 0, .slice none 0 0, .bool false] rfl rfl 39 _ R0.out rfl (by kernel_rfl) (by kernel_rfl) ?_)
  exact ret_l1 Tryz.results8 g _ rfl rfl (setRow_heap WX g _ _ _ _ R0.out) rfl ⟨rfl, below_setRow HX.out (by have := HG.out; omega) _⟩

theorem rroom_any (x : Ls) (LLv hv : Value) (la : Option Addr) (lc : Nat) (w : World) (hQ : x.Q.length ≤ 64) : Calls Tryz.prog 32 #[rv x LLv hv (.slice la x.Q.length lc)] w fun e w' => e = .returned (.int .i64 (x.room : Int)) ∧ Below w.heap.size w w' := by
  unfold rv rcs Ls.room
  generalize x.Q.length = q at *
  cases hs : x.sure with
  | false =>
    go_enter Tryz.func32, Tryz.ntmps32
    go_wp2
    go_ret
    exact ⟨rfl, below1 _⟩
  | true =>
    go_enter Tryz.func32, Tryz.ntmps32
    go_wp2
    go_ret
    refine ⟨?_, below1 _⟩
    rw [show ((64 - q : Nat) : Int) = 64 - (q : Int) by omega]
    rfl

/- what a call of the document's leaves -/
def Rfp (x : Ls) (LL : List ByteArray) (LLv hv lv : Value) (w : World) (x' : Ls) (LL' : List ByteArray) (LLv' hv' lv' : Value) (w' : World) : Prop :=
  Rf x' LL' LLv' hv' lv' w' ∧ Below w.heap.size w w' ∧ ∀ g, Ro x' LL' LLv' hv' lv' g → Ro x LL LLv hv lv g ∨ w.heap.size ≤ g
theorem Rfp.refl {x : Ls} {LL : List ByteArray} {LLv hv lv : Value} {w w' : World} (h : Rf x LL LLv hv lv w) (hb : Below w.heap.size w w') : Rfp x LL LLv hv lv w x LL LLv hv lv w' := ⟨h.below hb, hb, fun _ hg => .inl hg⟩

set_option maxHeartbeats 1000000 in
theorem rsend_bad (x : Ls) (LL : List ByteArray) (LLv hv lv : Value) (b : ByteArray) (w : World) (h : Rf x LL LLv hv lv w) (hc : x.sendC b ≠ 0) :
    Calls Tryz.prog 26 #[rv x LLv hv lv, .string b] w fun e w' => e = .returned (.tuple #[rv x LLv hv lv, .int .i64 (x.sendC b : Int)]) ∧ Rfp x LL LLv hv lv w x LL LLv hv lv w' := by
  obtain ⟨la, lc, hlv, _⟩ := h.ql
  obtain ⟨ba, bc, hbv, _⟩ := h.ll
  obtain ⟨ha, hac, hhv, _⟩ := h.hl
  have HR := hide1 h
  unfold rv rcs
  unfold Ls.sendC at hc ⊢
  obtain ⟨q, hq⟩ : ∃ q, x.Q.length = q := ⟨_, rfl⟩
  obtain ⟨bn, hbn⟩ : ∃ q, LL.length = q := ⟨_, rfl⟩
  obtain ⟨hn, hhn⟩ : ∃ q, x.l.length = q := ⟨_, rfl⟩
  rw [hq] at hlv hc ⊢
  rw [hbn] at hbv
  rw [hhn] at hhv
  subst hlv hbv hhv
  clear hq h hbn hhn
  have main : ∀ (c : Nat), (x.sure = false ∧ c = 8) ∨ (x.sure = true ∧ 65536 < b.size ∧ c = 2) ∨ (x.sure = true ∧ ¬ 65536 < b.size ∧ 64 ≤ q ∧ c = 16) → Calls Tryz.prog 26 #[.agg #[.int .u32 (x.own : Int), .int .u32 (x.peer : Int), .bool x.sure, .int .i64 0, (.slice ba bn bc), .int .i64 (x.k : Int), .int .i64 ((x.a : Int) + 1), (.slice ha hn hac), .slice la q lc, .bool x.owed], .string b] w fun e w' => e = .returned (.tuple #[.agg #[.int .u32 (x.own : Int), .int .u32 (x.peer : Int), .bool x.sure, .int .i64 0, (.slice ba bn bc), .int .i64 (x.k : Int), .int .i64 ((x.a : Int) + 1), (.slice ha hn hac), .slice la q lc, .bool x.owed], .int .i64 (c : Int)]) ∧ Rfp x LL (.slice ba bn bc) (.slice ha hn hac) (.slice la q lc) w x LL (.slice ba bn bc) (.slice ha hn hac) (.slice la q lc) w' := by
    intro c hcc
    obtain ⟨P, hP⟩ : ∃ P : World → Prop, P = fun w' => Rfp x LL (.slice ba bn bc) (.slice ha hn hac) (.slice la q lc) w x LL (.slice ba bn bc) (.slice ha hn hac) (.slice la q lc) w' := ⟨_, rfl⟩
    have HP : Hid (∀ w', Below w.heap.size w w' → P w') := fun w' hb => by rw [hP]; exact Rfp.refl HR.out hb
    suffices hs : Calls Tryz.prog 26 #[.agg #[.int .u32 (x.own : Int), .int .u32 (x.peer : Int), .bool x.sure, .int .i64 0, (.slice ba bn bc), .int .i64 (x.k : Int), .int .i64 ((x.a : Int) + 1), (.slice ha hn hac), .slice la q lc, .bool x.owed], .string b] w fun e w' => e = .returned (.tuple #[.agg #[.int .u32 (x.own : Int), .int .u32 (x.peer : Int), .bool x.sure, .int .i64 0, (.slice ba bn bc), .int .i64 (x.k : Int), .int .i64 ((x.a : Int) + 1), (.slice ha hn hac), .slice la q lc, .bool x.owed], .int .i64 (c : Int)]) ∧ P w' by rw [hP] at hs; exact hs
    clear hP HR hc
    generalize (x.own : Int) = io at *
    generalize (x.peer : Int) = ip at *
    generalize (x.k : Int) = ik at *
    generalize (x.a : Int) + 1 = ia at *
    generalize x.owed = iw at *
    generalize x.sure = su at *
    rcases hcc with ⟨rfl, rfl⟩ | ⟨rfl, h2, rfl⟩ | ⟨rfl, h2, h3, rfl⟩
    all_goals
      try have h2i : (65536 : Int) < (b.size : Int) := by omega
      try have h2i : ¬ (65536 : Int) < (b.size : Int) := by omega
      try have h3i : (64 : Int) ≤ (q : Int) := by omega
      go_enter Tryz.func26, Tryz.ntmps26
      go_upto_region 1 with (fail)
      generalize hX : World.alloc (World.alloc w _) _ = WX
      have HX : Hid (Below w.heap.size w WX) := by rw [← hX]; exact ((Below.refl _ _).alloc (Nat.le_refl _) _).alloc (by simp) _
      have R2 := hide1 (hX ▸ heap_alloc2_old w _ _)
      have R4 := hide1 (hX ▸ heap_alloc2_new w _ _)
      obtain ⟨g2, hg2⟩ : ∃ b, w.heap.size = b := ⟨_, rfl⟩
      obtain ⟨g4, hg4⟩ : ∃ b, w.heap.size + 1 = b := ⟨_, rfl⟩
      have HG : Hid (w.heap.size ≤ g4) := by unfold Hid; omega
      rw [hg4] at R4 ⊢
      rw [hg2] at R2 ⊢
      clear hX hg2 hg4
      obtain ⟨⟨c0, c1, c2, c3, c4⟩, ⟨c5, c6, c7, c8, c9⟩, _, _⟩ := box10 R2.out
      first
        | (go_wp2_with (refine wpList_store_row rfl 39 (.tmp 4) (.tmp 9) rfl g4 #[.int .u32 io, .int .u32 ip, .bool false, .int .i64 0, (.slice ba bn bc), .int .i64 ik, .int .i64 ia, (.slice ha hn hac), .slice la q lc, .bool iw] rfl rfl 39 _ R4.out rfl (by kernel_rfl) (by kernel_rfl) ?_)
           exact ret_l2 Tryz.results26 g4 _ _ rfl rfl rfl (setRow_heap WX g4 _ _ _ _ R4.out) rfl ⟨rfl, HP.out _ (below_setRow HX.out HG.out _)⟩)
        | (go_wp2_with (refine wpList_store_row rfl 39 (.tmp 4) (.tmp 13) rfl g4 #[.int .u32 io, .int .u32 ip, .bool true, .int .i64 0, (.slice ba bn bc), .int .i64 ik, .int .i64 ia, (.slice ha hn hac), .slice la q lc, .bool iw] rfl rfl 39 _ R4.out rfl (by kernel_rfl) (by kernel_rfl) ?_)
           exact ret_l2 Tryz.results26 g4 _ _ rfl rfl rfl (setRow_heap WX g4 _ _ _ _ R4.out) rfl ⟨rfl, HP.out _ (below_setRow HX.out HG.out _)⟩)
        | (go_wp2_with (refine wpList_store_row rfl 39 (.tmp 4) (.tmp 18) rfl g4 #[.int .u32 io, .int .u32 ip, .bool true, .int .i64 0, (.slice ba bn bc), .int .i64 ik, .int .i64 ia, (.slice ha hn hac), .slice la q lc, .bool iw] rfl rfl 39 _ R4.out rfl (by kernel_rfl) (by kernel_rfl) ?_)
           exact ret_l2 Tryz.results26 g4 _ _ rfl rfl rfl (setRow_heap WX g4 _ _ _ _ R4.out) rfl ⟨rfl, HP.out _ (below_setRow HX.out HG.out _)⟩)
  refine main _ ?_
  cases hs : x.sure with
  | false => exact .inl ⟨rfl, by rw [if_pos rfl]⟩
  | true =>
    rw [hs] at hc
    rw [if_neg (by simp)] at hc
    rw [if_neg (by simp)]
    by_cases h2 : 65536 < b.size
    · rw [if_pos h2]
      exact .inr (.inl ⟨rfl, h2, rfl⟩)
    · rw [if_neg h2] at hc ⊢
      by_cases h3 : 64 ≤ q
      · rw [if_pos h3]
        exact .inr (.inr ⟨rfl, h2, h3, rfl⟩)
      · rw [if_neg h3] at hc
        exact absurd rfl hc

end Go.Proofs.YtcadlcpccemkbaaGreatDoor
