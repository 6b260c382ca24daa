/- An Out of the program's beside one of the document's. -/
import Derived.Test.YtjingknkjokldaaVo
import Derived.Test.YtjingknkjokldaaVy
namespace Go.Proofs.Ytjingknkjokldaa
open Go.RowKit
set_option maxRecDepth 100000
attribute [local go_sem] not_any

theorem Rdl.lt {w : World} {u : Value} {l : List ByteArray} (h : Rdl w u l) (hl : l ≠ []) {g : Nat} (hg : u.ownBlock = some g) : g < w.heap.size := by
  obtain ⟨a, c, rfl, hc⟩ := h
  obtain ⟨g', o, rfl, h1⟩ := hc 0 (by cases l with | nil => exact absurd rfl hl | cons => simp)
  cases hg
  exact World.block_lt_of_cell? w _ h1
theorem Rdl.kp2 {F : Nat → Prop} {w w' : World} {v : Value} {l : List ByteArray} (h : Rdl w v l) (hk : Kp F w w') (hF : l ≠ [] → ∀ g, v.ownBlock = some g → ¬ F g) : Rdl w' v l := by
  obtain ⟨a, c, rfl, hc⟩ := h
  refine ⟨a, c, rfl, fun j hj => ?_⟩
  obtain ⟨g, o, rfl, h1⟩ := hc j hj
  exact ⟨g, o, rfl, (World.cell?_of_block (a := ⟨g, _, none⟩) (hk.block g (World.block_lt_of_cell? w _ h1) (hF (fun e => by rw [e] at hj; simp at hj) g rfl))).trans h1⟩

/- what Put leaves of all bodies -/
def poL (b c : Nat) (LL : List ByteArray) (x : ByteArray) : List ByteArray := if ptC (b + c) (LL.drop c) = 0 then LL ++ [x] else LL
/- how many have come behind Ack -/
def koC (b c : Nat) (LL : List ByteArray) (q : Nat) : Nat := if akC (b + c) (LL.drop c) q = 0 then max c (q - 1 - b) else c
structure Lim (b c : Nat) (LL : List ByteArray) : Prop where
  le : c ≤ LL.length
  room : LL.length - c ≤ 16
  last : b + LL.length ≤ 4294967294
  sz : Szl LL
theorem po_drop {b c : Nat} {LL : List ByteArray} {x : ByteArray} (h : c ≤ LL.length) : ptL (b + c) (LL.drop c) x = (poL b c LL x).drop c := by
  unfold ptL poL
  split
  · rw [List.drop_append_of_le_length h]
  · rfl
theorem ko_drop {b c q : Nat} {LL : List ByteArray} : akL (b + c) (LL.drop c) q = LL.drop (koC b c LL q) ∧ akK (b + c) (LL.drop c) q = b + koC b c LL q := by
  unfold akL akK koC
  split
  · refine ⟨?_, by omega⟩
    rw [List.drop_drop]
    congr 1
    omega
  · exact ⟨rfl, rfl⟩
theorem Lim.put {b c : Nat} {LL : List ByteArray} {x : ByteArray} (h : Lim b c LL) (hx : x.size ≤ 281474976710656) : Lim b c (poL b c LL x) ∧ (poL b c LL x).length ≤ LL.length + 1 := by
  obtain ⟨h1, h2, h3, h4⟩ := h
  unfold poL
  split
  · rename_i hc
    unfold ptC at hc
    rw [List.length_drop] at hc
    split at hc
    · cases hc
    · split at hc
      · cases hc
      · refine ⟨⟨by simp; omega, by simp; omega, by simp; omega, fun s hs => ?_⟩, by simp⟩
        rcases List.mem_append.1 hs with e | e
        · exact h4 s e
        · simp only [List.mem_singleton] at e
          rw [e]
          exact hx
  · exact ⟨⟨h1, h2, h3, h4⟩, by omega⟩
theorem Lim.ack {b c q : Nat} {LL : List ByteArray} (h : Lim b c LL) : Lim b (koC b c LL q) LL := by
  obtain ⟨h1, h2, h3, h4⟩ := h
  unfold koC
  split
  · rename_i hc
    unfold akC at hc
    rw [List.length_drop] at hc
    split at hc
    · cases hc
    · exact ⟨by omega, by omega, h3, h4⟩
  · exact ⟨h1, h2, h3, h4⟩

theorem rput_any (b n c cp : Nat) (a : Option Addr) (x : ByteArray) {LL : List ByteArray} {w : World} (hL : Rdl w (.slice a n cp) LL) (hl : Lim b c LL) (hn : LL.length ≤ 1000) :
    Calls Try.prog 10 #[.agg #[.int .i64 (b : Int), .slice a n cp, .int .i64 (c : Int)], .string x] w fun e w' => ∃ u, e = .returned (.tuple #[.agg #[.int .i64 (b : Int), u, .int .i64 (c : Int)], .int .i64 (ptN (b + c) (LL.drop c) : Int), .int .i64 (ptC (b + c) (LL.drop c) : Int)]) ∧ Rdl w' u (poL b c LL x) ∧ Below w.heap.size w w' ∧ (poL b c LL x ≠ [] → ∀ g, u.ownBlock = some g → ((Value.slice a n cp).ownBlock = some g ∧ g < w.heap.size ∧ LL ≠ []) ∨ w.heap.size ≤ g) := by
  obtain ⟨h1, h2, h3, h4⟩ := hl
  have hLN : LL.length = n := by obtain ⟨_, _, e, _⟩ := hL; cases e; rfl
  have hl : (LL.drop c).length = n - c := by rw [List.length_drop, hLN]
  have hs : b + c + (n - c) + 1 = b + n + 1 := by omega
  have fin : ∀ (C : Nat), (Calls Try.prog 10 #[.agg #[.int .i64 (b : Int), .slice a n cp, .int .i64 (c : Int)], .string x] w fun e w' => e = .returned (.tuple #[.agg #[.int .i64 (b : Int), .slice a n cp, .int .i64 (c : Int)], .int .i64 0, .int .i64 (C : Int)]) ∧ Below w.heap.size w w') →
      Calls Try.prog 10 #[.agg #[.int .i64 (b : Int), .slice a n cp, .int .i64 (c : Int)], .string x] w fun e w' => ∃ u, e = .returned (.tuple #[.agg #[.int .i64 (b : Int), u, .int .i64 (c : Int)], .int .i64 ((0 : Nat) : Int), .int .i64 (C : Int)]) ∧ Rdl w' u LL ∧ Below w.heap.size w w' ∧ (LL ≠ [] → ∀ g, u.ownBlock = some g → ((Value.slice a n cp).ownBlock = some g ∧ g < w.heap.size ∧ LL ≠ []) ∨ w.heap.size ≤ g) := fun C k => by
    refine k.mono ?_
    rintro e w' ⟨rfl, hb⟩
    exact ⟨_, rfl, hL.below hb (Nat.le_refl _), hb, fun hl g hg => .inl ⟨hg, hL.lt hl hg, hl⟩⟩
  unfold poL ptN ptC
  rw [hl, hs]
  by_cases h16 : 16 ≤ n - c
  · rw [if_pos h16, if_neg (by omega), if_neg (by omega)]
    exact fin 23 (rput_full b n c cp a x w (by omega) (by omega) h16)
  · rw [if_neg h16]
    by_cases h24 : 4294967294 < b + n + 1
    · rw [if_pos h24, if_neg (by omega), if_neg (by omega)]
      exact fin 24 (rput_last b n c cp a x w (by omega) (by omega) (by omega) h16 h24)
    · rw [if_neg h24, if_pos rfl, if_pos rfl]
      refine (rput_ok b n c cp a x hL (by omega) (by omega) (by omega) h16 h24).mono ?_
      rintro e w' ⟨u, rfl, k1, k2⟩
      exact ⟨u, rfl, k1.rd, k2, fun _ g hg => .inr (k1.lt hg).1⟩

theorem rack_any (b n c cp : Nat) (a : Option Addr) (q : Nat) {LL : List ByteArray} {w : World} (hn0 : LL.length = n) (hl : Lim b c LL) (hn : LL.length ≤ 1000) (hq : q < 4294967296) :
    Calls Try.prog 12 #[.agg #[.int .i64 (b : Int), .slice a n cp, .int .i64 (c : Int)], .int .i64 (q : Int)] w fun e w' => e = .returned (.tuple #[.agg #[.int .i64 (b : Int), .slice a n cp, .int .i64 (koC b c LL q : Int)], .int .i64 (akC (b + c) (LL.drop c) q : Int)]) ∧ Below w.heap.size w w' := by
  obtain ⟨h1, h2, h3, h4⟩ := hl
  have hl : (LL.drop c).length = n - c := by rw [List.length_drop, hn0]
  have hs : b + c + (n - c) + 1 = b + n + 1 := by omega
  unfold koC akC
  rw [hl, hs]
  by_cases h0 : q = 0
  · have e : (if q = 0 ∨ b + n + 1 < q then 22 else 0) = 22 := if_pos (.inl h0)
    rw [e, if_neg (by omega)]
    subst h0
    exact rack_none b n c cp a w
  · by_cases h5 : b + n + 1 < q
    · have e : (if q = 0 ∨ b + n + 1 < q then 22 else 0) = 22 := if_pos (.inr h5)
      rw [e, if_neg (by omega)]
      exact rack_gap b n c cp a q w (by omega) (by omega) h5
    · have e : (if q = 0 ∨ b + n + 1 < q then 22 else 0) = 0 := if_neg (by omega)
      rw [e, if_pos rfl]
      by_cases h6 : q - 1 - b ≤ c
      · rw [show max c (q - 1 - b) = c by omega]
        exact rack_old b n c cp a q w (by omega) (by omega) h0 (by omega) hq h6
      · rw [show max c (q - 1 - b) = q - 1 - b by omega]
        exact rack_new b n c cp a q w (by omega) (by omega) h0 (by omega) hq (by omega)

/- both in memory -/
structure Bp (B s r : Nat) (v u : Value) (k : Nat) (A : List ByteArray) (b c : Nat) (LL : List ByteArray) (w : World) : Prop where
  ot : Otm B s v k A w
  row : w.heap[r]? = some (.cells #[.int .i64 (b : Int), u, .int .i64 (c : Int)] 29 (0, 0))
  rd : Rdl w u LL
  bs : B ≤ s
  br : B ≤ r
  nsr : s ≠ r
  nvr : v.ownBlock ≠ some r
  nu : LL ≠ [] → ∀ g, u.ownBlock = some g → g ≠ s ∧ g ≠ r ∧ v.ownBlock ≠ some g
theorem Bp.below {B s r k b c : Nat} {v u : Value} {A LL : List ByteArray} {w w' : World} (h : Bp B s r v u k A b c LL w) (hb : Below w.heap.size w w') : Bp B s r v u k A b c LL w' :=
  ⟨h.ot.below hb (Nat.le_refl _), (hb.block r (lt_heap h.row)).trans h.row, h.rd.below hb (Nat.le_refl _), h.bs, h.br, h.nsr, h.nvr, h.nu⟩
theorem Bp.called {B s r k b c k' : Nat} {v u v' : Value} {A LL A' : List ByteArray} {w w' : World} (h : Bp B s r v u k A b c LL w) (hB : B ≤ w.heap.size) (hi : Otm B s v' k' A' w') (hk : Kp (Ofm s v) w w') (hf : ∀ g, v'.ownBlock = some g → v.ownBlock = some g ∨ w.heap.size ≤ g) : Bp B s r v' u k' A' b c LL w' ∧ Below B w w' := by
  refine ⟨⟨hi, (hk.block r (lt_heap h.row) ?_).trans h.row, h.rd.kp2 hk fun hl g hg hF => ?_, h.bs, h.br, h.nsr, fun e => ?_, fun hl g hg => ?_⟩, ?_⟩
  · rintro (e | e)
    · exact h.nsr e.symm
    · exact h.nvr e
  · obtain ⟨h1, _, h3⟩ := h.nu hl g hg
    rcases hF with e | e
    · exact h1 e
    · exact h3 e
  · rcases hf r e with h1 | h1
    · exact h.nvr h1
    · have := lt_heap h.row
      omega
  · obtain ⟨h1, h2, h3⟩ := h.nu hl g hg
    refine ⟨h1, h2, fun e => ?_⟩
    rcases hf g e with h4 | h4
    · exact h3 h4
    · have := h.rd.lt hl hg
      omega
  · refine hk.below hB fun g hg => ?_
    rcases hg with e | e
    · rw [e]; exact h.bs
    · exact (h.ot.ls.lt e).1
theorem Bp.stored {B s r k b c c' : Nat} {v u u' : Value} {A LL L' : List ByteArray} {w w' : World} (h : Bp B s r v u k A b c LL w) (hb : Below w.heap.size w w') (hr : Rdl w' u' L') (hu : L' ≠ [] → ∀ g, u'.ownBlock = some g → (u.ownBlock = some g ∧ g < w.heap.size ∧ LL ≠ []) ∨ w.heap.size ≤ g) :
    Bp B s r v u' k A b c' L' (((w'.setCell ⟨r, 0, none⟩ (.int .i64 (b : Int))).setCell ⟨r, 1, none⟩ u').setCell ⟨r, 2, none⟩ (.int .i64 (c' : Int))) := by
  have hk : Kp (fun g => g = r) w' (((w'.setCell ⟨r, 0, none⟩ (.int .i64 (b : Int))).setCell ⟨r, 1, none⟩ u').setCell ⟨r, 2, none⟩ (.int .i64 (c' : Int))) := ((Kp.setCell (F := fun g => g = r) w' r 0 _ rfl).trans (Kp.setCell (F := fun g => g = r) _ r 1 _ rfl)).trans (Kp.setCell (F := fun g => g = r) _ r 2 _ rfl)
  have h1 := h.below hb
  have hne : L' ≠ [] → ∀ g, u'.ownBlock = some g → g ≠ s ∧ g ≠ r ∧ v.ownBlock ≠ some g := fun hl g hg => by
    rcases hu hl g hg with ⟨e, _, hl2⟩ | e
    · exact h.nu hl2 g e
    · have k1 := lt_heap h.ot.row
      have k2 := lt_heap h.row
      refine ⟨by omega, by omega, fun e2 => ?_⟩
      have := (h.ot.ls.lt e2).2
      omega
  refine ⟨h1.ot.kp hk fun g hg e => ?_, set_box3 h1.row, hr.kp2 hk fun hl g hg e => (hne hl g hg).2.1 e, h.bs, h.br, h.nsr, h.nvr, hne⟩
  subst e
  rcases hg with e | e
  · exact h.nsr e.symm
  · exact h.nvr e

/- what a call of the document's leaves, its box among it -/
structure Mo (U W : World) (u u' : Value) (b c : Nat) (LL L' : List ByteArray) (g : Nat) : Prop where
  row : W.heap[g]? = some (.cells #[.int .i64 (b : Int), u', .int .i64 (c : Int)] 29 (0, 0))
  rd : Rdl W u' L'
  bel : Below U.heap.size U W
  own : L' ≠ [] → ∀ g, u'.ownBlock = some g → (u.ownBlock = some g ∧ g < U.heap.size ∧ LL ≠ []) ∨ U.heap.size ≤ g
theorem mo_call {U W : World} {u u' : Value} {LL L' : List ByteArray} (b c : Nat) (h1 : Rdl W u' L') (h3 : Below U.heap.size U W) (h4 : L' ≠ [] → ∀ g, u'.ownBlock = some g → (u.ownBlock = some g ∧ g < U.heap.size ∧ LL ≠ []) ∨ U.heap.size ≤ g) (x y z : Value) :
    Mo U ((((W.alloc (.cells #[x, y, z] 29)).setCell ⟨W.heap.size, 0, none⟩ (.int .i64 (b : Int))).setCell ⟨W.heap.size, 1, none⟩ u').setCell ⟨W.heap.size, 2, none⟩ (.int .i64 (c : Int))) u u' b c LL L' W.heap.size := by
  have hb : Below W.heap.size W ((((W.alloc (.cells #[x, y, z] 29)).setCell ⟨W.heap.size, 0, none⟩ (.int .i64 (b : Int))).setCell ⟨W.heap.size, 1, none⟩ u').setCell ⟨W.heap.size, 2, none⟩ (.int .i64 (c : Int))) := below_set3 (below1 _) (Nat.le_refl _)
  exact ⟨set_box3 (heap_alloc_new _ _), h1.below hb (Nat.le_refl _), h3.trans (hb.mono h3.size), h4⟩
theorem mo_box {U W : World} {u u' : Value} {LL L' : List ByteArray} {x y z : Value} (b c : Nat) (h1 : Rdl W u' L') (h3 : Below (U.alloc (.cells #[x, y, z] 29)).heap.size (U.alloc (.cells #[x, y, z] 29)) W)
    (h0 : Rdl U u LL) (h4 : L' ≠ [] → ∀ g, u'.ownBlock = some g → (u.ownBlock = some g ∧ g < (U.alloc (.cells #[x, y, z] 29)).heap.size ∧ LL ≠ []) ∨ (U.alloc (.cells #[x, y, z] 29)).heap.size ≤ g) :
    Mo U (((W.setCell ⟨U.heap.size, 0, none⟩ (.int .i64 (b : Int))).setCell ⟨U.heap.size, 1, none⟩ u').setCell ⟨U.heap.size, 2, none⟩ (.int .i64 (c : Int))) u u' b c LL L' U.heap.size := by
  have hs : (U.alloc (.cells #[x, y, z] 29)).heap.size = U.heap.size + 1 := by simp
  have r0 : W.heap[U.heap.size]? = some (.cells #[x, y, z] 29 (0, 0)) := (h3.block _ (by omega)).trans (heap_alloc_new _ _)
  have b0 : Below U.heap.size U W := (below1 _).trans (h3.mono (by omega))
  have hk : Kp (fun k => k = U.heap.size) W (((W.setCell ⟨U.heap.size, 0, none⟩ (.int .i64 (b : Int))).setCell ⟨U.heap.size, 1, none⟩ u').setCell ⟨U.heap.size, 2, none⟩ (.int .i64 (c : Int))) := ((Kp.setCell (F := fun k => k = U.heap.size) W U.heap.size 0 _ rfl).trans (Kp.setCell (F := fun k => k = U.heap.size) _ U.heap.size 1 _ rfl)).trans (Kp.setCell (F := fun k => k = U.heap.size) _ U.heap.size 2 _ rfl)
  have h5 : L' ≠ [] → ∀ g, u'.ownBlock = some g → (u.ownBlock = some g ∧ g < U.heap.size ∧ LL ≠ []) ∨ U.heap.size + 1 ≤ g := fun hl g hg => by
    rcases h4 hl g hg with ⟨e, _, e3⟩ | e
    · exact .inl ⟨e, h0.lt e3 e, e3⟩
    · exact .inr (by omega)
  refine ⟨set_box3 r0, h1.kp2 hk fun hl k hk e => ?_, below_set3 b0 (Nat.le_refl _), fun hl g hg => ?_⟩
  · rcases h5 hl k hk with h6 | h6 <;> omega
  · rcases h5 hl g hg with h6 | h6
    · exact .inl h6
    · exact .inr (by omega)

end Go.Proofs.Ytjingknkjokldaa
