/- An In of the program's beside one of the document's. The document's Out: Next, Put, Ack, Pending. -/
import Derived.Test.YtcadlcpccemkbaaGreatDoorDz
import Derived.Test.YtcadlcpccemkbaaGreatDoorMDuDnaDv
namespace Go.Proofs.YtcadlcpccemkbaaGreatDoor
open Go.RowKit
set_option maxRecDepth 100000
attribute [local go_sem] not_any

theorem Rnl.lt {w : World} {u : Value} {l : List (Nat × ByteArray)} (h : Rnl w u l) (hl : l ≠ []) {g : Nat} (hg : u.ownBlock = some g) : g < w.heap.size := by
  obtain ⟨a, c, rfl, hc⟩ := h
  obtain ⟨g', o, rfl, h1, _⟩ := hc 0 (by cases l with | nil => exact absurd rfl hl | cons => simp)
  cases hg
  exact World.block_lt_of_cell? w _ h1
theorem Rnl.kp2 {F : Nat → Prop} {w w' : World} {v : Value} {l : List (Nat × ByteArray)} (h : Rnl w v l) (hk : Kp F w w') (hF : l ≠ [] → ∀ g, v.ownBlock = some g → ¬ F g) : Rnl w' v l := by
  by_cases hl : l = []
  · obtain ⟨a, c, rfl, _⟩ := h
    rw [hl]
    exact ⟨a, c, rfl, fun j hj => by simp at hj⟩
  · exact h.kp hk (hF hl)

theorem rtake_any {a q : Nat} {u : Value} {l : List (Nat × ByteArray)} {b : ByteArray} {w : World} (h : Rnl w u l) (hd : Hd a l) (ha : a + 100 < 4294967296) (hq : q < 4294967296) :
    Calls Tryz.prog 61 #[.agg #[.int .i64 ((a + 1 : Nat) : Int), u], .int .i64 (q : Int), .string b] w fun e w' => ∃ u' v, e = .returned (.tuple #[.agg #[.int .i64 ((tkA a l q b + 1 : Nat) : Int), u'], v, .int .i64 (chkC a (lk l) q)]) ∧ Rnl w' u' (tkR a l q b) ∧ Lst w.heap.size w' v (tkO a l q b) ∧ Below w.heap.size w w' ∧ (tkR a l q b ≠ [] → ∀ g, u'.ownBlock = some g → (u.ownBlock = some g ∧ g < w.heap.size ∧ l ≠ []) ∨ w.heap.size ≤ g) := by
  unfold tkA tkR tkO
  by_cases hc : chkC a (lk l) q = 0
  · rw [if_pos hc, if_pos hc, hc]
    refine (rtake_ok h hd hc ha).mono ?_
    rintro e w' ⟨u', v, rfl, h1, h2, h3, h4⟩
    exact ⟨u', v, rfl, h1, h2, h3, fun _ g hg => .inr (h4 g hg)⟩
  · rw [if_neg hc, if_neg hc]
    have fin : ∀ (c : Nat), (Calls Tryz.prog 61 #[.agg #[.int .i64 ((a + 1 : Nat) : Int), u], .int .i64 (q : Int), .string b] w fun e w' => e = .returned (.tuple #[.agg #[.int .i64 ((a + 1 : Nat) : Int), u], .slice none 0 0, .int .i64 (c : Int)]) ∧ Below w.heap.size w w') →
        Calls Tryz.prog 61 #[.agg #[.int .i64 ((a + 1 : Nat) : Int), u], .int .i64 (q : Int), .string b] w fun e w' => ∃ u' v, e = .returned (.tuple #[.agg #[.int .i64 ((a + ([] : List ByteArray).length + 1 : Nat) : Int), u'], v, .int .i64 (c : Int)]) ∧ Rnl w' u' l ∧ Lst w.heap.size w' v [] ∧ Below w.heap.size w w' ∧ (l ≠ [] → ∀ g, u'.ownBlock = some g → (u.ownBlock = some g ∧ g < w.heap.size ∧ l ≠ []) ∨ w.heap.size ≤ g) := fun c k => by
      refine k.mono ?_
      rintro e w' ⟨rfl, hb⟩
      exact ⟨u, _, rfl, h.below hb (Nat.le_refl _), Lst.nil _ _, hb, fun hl g hg => .inl ⟨hg, h.lt hl hg, hl⟩⟩
    unfold chkC at hc ⊢
    by_cases h1 : q < a + 1
    · rw [if_pos (.inl h1)]
      obtain ⟨u1, c, rfl, _⟩ := id h
      exact fin 21 (rtake_old a q u1 l.length c b w h1)
    · by_cases h2 : (lk l q).isSome
      · rw [if_pos (.inr h2)]
        have h17 : q < a + 17 := by
          obtain ⟨p, hp, e⟩ := lk_isSome.1 h2
          have := hd.upto p hp
          omega
        exact fin 21 (rtake_held h hd (by omega) h17 h2 hq)
      · have hn : ¬ (q < a + 1 ∨ (lk l q).isSome = true) := by simp [h1, h2]
        rw [if_neg hn] at hc ⊢
        by_cases h3 : 16 ≤ q - (a + 1)
        · rw [if_pos h3]
          obtain ⟨u1, c, rfl, _⟩ := id h
          exact fin 23 (rtake_far a q u1 l.length c b w (by omega) hq)
        · rw [if_neg h3] at hc
          exact absurd rfl hc

/- both in memory -/
/- the program's took a body -/
/- the document's In is another now -/
end Go.Proofs.YtcadlcpccemkbaaGreatDoor

namespace Go.Proofs.YtcadlcpccemkbaaGreatDoor
open Go.RowKit
set_option maxRecDepth 100000
attribute [local go_sem] not_any

theorem box3 {w : World} {g : Nat} {x y z : Value} {t : TypeId} (h : w.heap[g]? = some (.cells #[x, y, z] t (0, 0))) : w.cell? ⟨g, 0, none⟩ = some x ∧ w.cell? ⟨g, 1, none⟩ = some y ∧ w.cell? ⟨g, 2, none⟩ = some z ∧ w.frozen? ⟨g, 0, none⟩ = false ∧ w.frozen? ⟨g, 1, none⟩ = false ∧ w.frozen? ⟨g, 2, none⟩ = false :=
  ⟨by rw [cell_of_row w g 0 _ _ _ h]; rfl, by rw [cell_of_row w g 1 _ _ _ h]; rfl, by rw [cell_of_row w g 2 _ _ _ h]; rfl, frozen_of_row w g 0 _ _ h, frozen_of_row w g 1 _ _ h, frozen_of_row w g 2 _ _ h⟩
theorem set_box3 {w : World} {g : Nat} {x y z x' y' z' : Value} {t : TypeId} (h : w.heap[g]? = some (.cells #[x, y, z] t (0, 0))) : (((w.setCell ⟨g, 0, none⟩ x').setCell ⟨g, 1, none⟩ y').setCell ⟨g, 2, none⟩ z').heap[g]? = some (.cells #[x', y', z'] t (0, 0)) := by
  rw [heap_setCell_same _ g 2 _ _ _ (heap_setCell_same _ g 1 _ _ _ (heap_setCell_same _ g 0 _ _ _ h))]
  rfl
theorem free3 {w : World} {g : Nat} {x y z x' y' : Value} {t : TypeId} (h : w.heap[g]? = some (.cells #[x, y, z] t (0, 0))) : (w.setCell ⟨g, 0, none⟩ x').frozen? ⟨g, 1, none⟩ = false ∧ (w.setCell ⟨g, 0, none⟩ x').cell? ⟨g, 1, none⟩ = some y ∧ ((w.setCell ⟨g, 0, none⟩ x').setCell ⟨g, 1, none⟩ y').frozen? ⟨g, 2, none⟩ = false ∧ ((w.setCell ⟨g, 0, none⟩ x').setCell ⟨g, 1, none⟩ y').cell? ⟨g, 2, none⟩ = some z := by
  have h1 := heap_setCell_same w g 0 _ _ x' h
  have h2 := heap_setCell_same _ g 1 _ _ y' h1
  exact ⟨frozen_of_row _ g 1 _ _ h1, by rw [cell_of_row _ g 1 _ _ _ h1]; rfl, frozen_of_row _ g 2 _ _ h2, by rw [cell_of_row _ g 2 _ _ _ h2]; rfl⟩
theorem below_set3 {B : Nat} {w w' : World} {g : Nat} {x y z : Value} (h : Below B w w') (hg : B ≤ g) : Below B w (((w'.setCell ⟨g, 0, none⟩ x).setCell ⟨g, 1, none⟩ y).setCell ⟨g, 2, none⟩ z) := (below_set2 h hg).setCell (p := ⟨g, 2, none⟩) hg _
theorem ret_o3 {fn : Func} {p u q : Tmp} (h : fn.results = #[.cell p 34, .tmp u, .tmp q]) {R : Ending → World → Prop} {a : Act} {w : World} (g : Nat) (x y z v v2 : Value) (hp : a.tmps.getD p undef = .pointer (some ⟨g, 0, none⟩))
    (hu : a.tmps.getD u undef = v) (hz : a.tmps.getD q undef = v2) (hg : w.heap[g]? = some (.cells #[x, y, z] 34 (0, 0))) (hd : a.defers = []) (hR : R (.returned (.tuple #[.agg #[x, y, z], v, v2])) w) : bodyPost Tryz.prog fn R .ret a w := by
  refine bodyPost_ret_by (v := .tuple #[.agg #[x, y, z], v, v2]) ?_ hd hR
  have hl := run_loadVar_row (P := Tryz.prog) w g 34 34 #[x, y, z] (0, 0) _ hg Tryz.underlying34 rfl (by kernel_rfl)
  rw [results_three h, hp, hu, hz]
  simp [asAddr, hl, Result.andThen]
theorem ret_o2 {fn : Func} {p u : Tmp} (h : fn.results = #[.cell p 34, .tmp u]) {R : Ending → World → Prop} {a : Act} {w : World} (g : Nat) (x y z v : Value) (hp : a.tmps.getD p undef = .pointer (some ⟨g, 0, none⟩))
    (hu : a.tmps.getD u undef = v) (hg : w.heap[g]? = some (.cells #[x, y, z] 34 (0, 0))) (hd : a.defers = []) (hR : R (.returned (.tuple #[.agg #[x, y, z], v])) w) : bodyPost Tryz.prog fn R .ret a w := by
  refine bodyPost_ret_by (v := .tuple #[.agg #[x, y, z], v]) ?_ hd hR
  have hl := run_loadVar_row (P := Tryz.prog) w g 34 34 #[x, y, z] (0, 0) _ hg Tryz.underlying34 rfl (by kernel_rfl)
  rw [results_cell_tmp h, hp, hu]
  simp [asAddr, hl, Result.andThen]
theorem Lst.zero {B : Nat} {w : World} (hB : B ≤ w.heap.size) : Lst B (w.alloc (.cells #[] 9)) (.slice (some ⟨w.heap.size, 0, none⟩) 0 0) [] :=
  ⟨rfl, .inr ⟨w.heap.size, 0, #[], rfl, hB, heap_alloc_new _ _, Nat.le_refl _, by unfold maxLen; omega, rfl, rfl⟩⟩

theorem rnext_any (b n c cp : Nat) (a : Option Addr) (w : World) (hb : b ≤ 4294967296) (hn : n ≤ 1000) :
    Calls Tryz.prog 90 #[.agg #[.int .i64 (b : Int), .slice a n cp, .int .i64 (c : Int)]] w fun e w' => e = .returned (.int .i64 ((b + n + 1 : Nat) : Int)) ∧ Below w.heap.size w w' := by
  have hb' : (b : Int) ≤ 4294967296 := by omega
  have hn' : (n : Int) ≤ 1000 := by omega
  go_enter Tryz.func90, Tryz.ntmps90
  go_wp2
  go_ret
  refine ⟨?_, below1 _⟩
  rw [show ((b + n + 1 : Nat) : Int) = (b : Int) + (n : Int) + 1 by omega]
  rfl

theorem rput_full (b n c cp : Nat) (a : Option Addr) (x : ByteArray) (w : World) (hn : n ≤ 1000) (hc : c ≤ n) (h16 : 16 ≤ n - c) :
    Calls Tryz.prog 88 #[.agg #[.int .i64 (b : Int), .slice a n cp, .int .i64 (c : Int)], .string x] w fun e w' => e = .returned (.tuple #[.agg #[.int .i64 (b : Int), .slice a n cp, .int .i64 (c : Int)], .int .i64 0, .int .i64 23]) ∧ Below w.heap.size w w' := by
  have h1 : (16 : Int) ≤ (n : Int) - (c : Int) := by omega
  clear h16
  go_enter Tryz.func88, Tryz.ntmps88
  go_wp2
  exact ret_o3 Tryz.results88 (w.heap.size + 1) _ _ _ _ _ rfl rfl rfl (two_new _ _ _).2 rfl ⟨rfl, below2 _ _⟩

theorem rput_last (b n c cp : Nat) (a : Option Addr) (x : ByteArray) (w : World) (hb : b ≤ 4294967296) (hn : n ≤ 1000) (hc : c ≤ n) (h16 : ¬ 16 ≤ n - c) (h24 : 4294967294 < b + n + 1) :
    Calls Tryz.prog 88 #[.agg #[.int .i64 (b : Int), .slice a n cp, .int .i64 (c : Int)], .string x] w fun e w' => e = .returned (.tuple #[.agg #[.int .i64 (b : Int), .slice a n cp, .int .i64 (c : Int)], .int .i64 0, .int .i64 24]) ∧ Below w.heap.size w w' := by
  have kN := fun w => hide1 (rnext_any b n c cp a w hb hn)
  have h1 : ¬ (16 : Int) ≤ (n : Int) - (c : Int) := by omega
  obtain ⟨m, hm⟩ : ∃ m, b + n + 1 = m := ⟨_, rfl⟩
  rw [hm] at kN h24
  have h2 : (4294967294 : Int) < (m : Int) := by omega
  clear h16 h24 hm hb
  go_enter Tryz.func88, Tryz.ntmps88
  go_wp2_with fail
  have T2 := hide1 (two_new w (.cells #[.int .i64 (b : Int), .slice a n cp, .int .i64 (c : Int)] 34) (.cells #[.int .i64 0, .slice none 0 0, .int .i64 0] 34))
  have B2 := hide1 (below2 (w := w) (.cells #[.int .i64 (b : Int), .slice a n cp, .int .i64 (c : Int)] 34) (.cells #[.int .i64 0, .slice none 0 0, .int .i64 0] 34))
  obtain ⟨b0, hb0⟩ : ∃ b0, w.heap.size = b0 := ⟨_, rfl⟩
  obtain ⟨b1, hb1⟩ : ∃ b1, w.heap.size + 1 = b1 := ⟨_, rfl⟩
  rw [hb1, hb0] at T2
  rw [hb1, hb0]
  generalize (w.alloc _).alloc _ = X at T2 B2 ⊢
  have HS : Hid (w.heap.size = b0 ∧ b0 + 1 = b1) := ⟨hb0, by omega⟩
  clear hb0 hb1
  refine (kN _).out.mono ?_
  rintro e W1 ⟨rfl, hb1⟩
  have r0 := hide1 ((hb1.block b0 (lt_heap T2.out.1)).trans T2.out.1)
  have r1 := hide1 ((hb1.block b1 (lt_heap T2.out.2)).trans T2.out.2)
  have B3 : Hid (Below w.heap.size w W1) := B2.out.trans (hb1.mono B2.out.size)
  obtain ⟨c0, c1, c2, _, _, _⟩ := box3 r0.out
  obtain ⟨d0, _, _, f0, _, _⟩ := box3 r1.out
  obtain ⟨f1, d1, f2, d2⟩ := free3 (x' := .int .i64 (b : Int)) (y' := .slice a n cp) r1.out
  clear hb1 kN T2 B2
  go_wp2
  exact ret_o3 Tryz.results88 b1 _ _ _ _ _ rfl rfl rfl (set_box3 r1.out) rfl ⟨rfl, below_set3 B3.out (by have := HS.out; omega)⟩

theorem put_facts {W2 W3 W4 : World} {b0 b1 : Nat} {x y z p q r v1 v2 : Value} {A C : List ByteArray} {s : ByteArray} (h1 : (W2.alloc (.cells #[] 9)).grownBy W3 (Value.slice (some ⟨W2.heap.size, 0, none⟩) 0 0).ownBlock) (h2 : (W3.alloc (.cells #[.string s] 9)).grownBy W4 v1.ownBlock) (o1 : Lst (b1 + 1) W3 v1 A) (o2 : Lst (b1 + 1) W4 v2 C) (hS : b1 + 1 ≤ W2.heap.size)
    (r0 : W2.heap[b0]? = some (.cells #[x, y, z] 34 (0, 0))) (r1 : W2.heap[b1]? = some (.cells #[p, q, r] 34 (0, 0))) (hb : b0 + 1 = b1) :
    W4.heap[b0]? = some (.cells #[x, y, z] 34 (0, 0)) ∧ (W4.setCell ⟨b0, 1, none⟩ v2).heap[b0]? = some (.cells #[x, v2, z] 34 (0, 0)) ∧ (W4.setCell ⟨b0, 1, none⟩ v2).heap[b1]? = some (.cells #[p, q, r] 34 (0, 0)) ∧ Lst (b1 + 1) (W4.setCell ⟨b0, 1, none⟩ v2) v2 C ∧ Below b0 W2 (W4.setCell ⟨b0, 1, none⟩ v2) := by
  have B4 : Below (b1 + 1) W2 (W2.alloc (.cells #[] 9)) := (below1 _).mono hS
  have B5 : Below (b1 + 1) W2 W3 := B4.grown h1 (by have := B4.size; omega) (fun k hk => by simp [Value.ownBlock] at hk; omega)
  have B6 : Below (b1 + 1) W2 (W3.alloc (.cells #[.string s] 9)) := B5.alloc (by have := B5.size; omega) _
  have B7 : Below (b1 + 1) W2 W4 := B6.grown h2 (by have := B6.size; omega) (fun k hk => (o1.lt hk).1)
  have e0 := (B7.block b0 (by omega)).trans r0
  have e1 := (B7.block b1 (by omega)).trans r1
  refine ⟨e0, ?_, ?_, o2.kp (F := fun k => k = b0) (Kp.setCell (F := fun k => k = b0) W4 b0 1 _ rfl) fun k hk e => (by have := (o2.lt hk).1; omega), (B7.mono (show b0 ≤ b1 + 1 by omega)).setCell (p := ⟨b0, 1, none⟩) (Nat.le_refl b0) _⟩
  · rw [heap_setCell_same _ b0 1 _ _ _ e0]
    rfl
  · rw [heap_setCell_other _ _ _ _ (show b1 ≠ b0 by omega)]
    exact e1

set_option maxHeartbeats 2000000 in
theorem rput_ok (b n c cp : Nat) (a : Option Addr) (x : ByteArray) {LL : List ByteArray} {w : World} (hL : Rdl w (.slice a n cp) LL) (hb : b ≤ 4294967296) (hn : n ≤ 1000) (hc : c ≤ n) (h16 : ¬ 16 ≤ n - c) (h24 : ¬ 4294967294 < b + n + 1) :
    Calls Tryz.prog 88 #[.agg #[.int .i64 (b : Int), .slice a n cp, .int .i64 (c : Int)], .string x] w fun e w' => ∃ u, e = .returned (.tuple #[.agg #[.int .i64 (b : Int), u, .int .i64 (c : Int)], .int .i64 ((b + n + 1 : Nat) : Int), .int .i64 0]) ∧ Lst w.heap.size w' u (LL ++ [x]) ∧ Below w.heap.size w w' := by
  have kN := fun w => hide1 (rnext_any b n c cp a w hb hn)
  have HL := hide1 hL
  have HLN : Hid (LL.length = n) := by obtain ⟨_, _, e, _⟩ := hL; cases e; rfl
  have HNN := hide1 hn
  have h1 : ¬ (16 : Int) ≤ (n : Int) - (c : Int) := by omega
  obtain ⟨m, hm⟩ : ∃ m, b + n + 1 = m := ⟨_, rfl⟩
  rw [hm] at kN h24 ⊢
  have h2 : ¬ (4294967294 : Int) < (m : Int) := by omega
  clear h16 h24 hm hb hL
  go_enter Tryz.func88, Tryz.ntmps88
  go_wp2_with fail
  have T2 := hide1 (two_new w (.cells #[.int .i64 (b : Int), .slice a n cp, .int .i64 (c : Int)] 34) (.cells #[.int .i64 0, .slice none 0 0, .int .i64 0] 34))
  have B2 := hide1 (below2 (w := w) (.cells #[.int .i64 (b : Int), .slice a n cp, .int .i64 (c : Int)] 34) (.cells #[.int .i64 0, .slice none 0 0, .int .i64 0] 34))
  have SX : Hid (w.heap.size + 2 ≤ ((w.alloc (.cells #[.int .i64 (b : Int), .slice a n cp, .int .i64 (c : Int)] 34)).alloc (.cells #[.int .i64 0, .slice none 0 0, .int .i64 0] 34)).heap.size) := by simp [Hid]
  obtain ⟨b0, hb0⟩ : ∃ b0, w.heap.size = b0 := ⟨_, rfl⟩
  obtain ⟨b1, hb1⟩ : ∃ b1, w.heap.size + 1 = b1 := ⟨_, rfl⟩
  rw [hb1, hb0] at T2
  rw [hb1, hb0]
  generalize (w.alloc _).alloc _ = X at T2 B2 SX ⊢
  have HS : Hid (w.heap.size = b0 ∧ b0 + 1 = b1 ∧ b1 + 1 ≤ X.heap.size) := ⟨hb0, by omega, by have := SX.out; omega⟩
  clear hb0 hb1 SX
  refine (kN _).out.mono ?_
  rintro e W1 ⟨rfl, hb1⟩
  have R0 := hide1 ((hb1.block b0 (lt_heap T2.out.1)).trans T2.out.1)
  have R1 := hide1 ((hb1.block b1 (lt_heap T2.out.2)).trans T2.out.2)
  have B3 : Hid (Below w.heap.size w W1) := B2.out.trans (hb1.mono B2.out.size)
  have S3 : Hid (b1 + 1 ≤ W1.heap.size) := by have := HS.out; have := hb1.size; unfold Hid; omega
  obtain ⟨c0, c1, c2, _, _, _⟩ := box3 R0.out
  clear hb1 T2 B2
  go_wp2_with fail
  refine (kN _).out.mono ?_
  rintro e W2 ⟨rfl, hb2⟩
  replace R0 := hide1 ((hb2.block b0 (lt_heap R0.out)).trans R0.out)
  replace R1 := hide1 ((hb2.block b1 (lt_heap R1.out)).trans R1.out)
  replace B3 : Hid (Below w.heap.size w W2) := B3.out.trans (hb2.mono B3.out.size)
  replace S3 : Hid (b1 + 1 ≤ W2.heap.size) := by have := S3.out; have := hb2.size; unfold Hid; omega
  clear hb2 kN c0 c1 c2
  have Q0 := hide1 (Lst.zero (w := W2) S3.out)
  have b4 : Hid (Below W2.heap.size W2 (W2.alloc (.cells #[] 9))) := below1 _
  have e0 : (W2.alloc (.cells #[] 9)).heap[b0]? = some _ := (b4.out.block b0 (lt_heap R0.out)).trans R0.out
  obtain ⟨c0, c1, c2, _, _, _⟩ := box3 e0
  have RD := hide1 (HL.out.below (B3.out.trans (b4.out.mono B3.out.size)) (Nat.le_refl _))
  have Z1 : Hid (([] : List ByteArray).length + LL.length ≤ 1000000 ∧ b1 + 1 ≤ (W2.alloc (.cells #[] 9)).heap.size) := by
    have h3 := HLN.out
    have h4 := HNN.out
    have h5 := S3.out
    have h6 := b4.out.size
    exact ⟨by simp; omega, by omega⟩
  go_wp2_with (at_builtin; go_must (first | (refine wpList_append_lst rfl _ _ rfl rfl rfl Q0.out RD.out Z1.out.1 Z1.out.2 ?_; intro v1 W3 ho hg hf; have HO1 := hide1 ho; have HG1 := hide1 hg; have b5 := hide1 (below1 (w := W3) (.cells #[.string x] 9)); have LC := hide1 (HO1.out.below b5.out (Nat.le_refl _)); have RC := hide1 (Rdl.one W3 x); clear ho hg hf c0 c1 c2 e0) | (refine wpList_append_lst rfl _ _ rfl rfl rfl LC.out RC.out (by have h3 := HLN.out; have h4 := HNN.out; simp; omega) (by have h5 := Z1.out.2; have h6 := HG1.out.size; have h7 := b5.out.size; omega) ?_; intro v2 W4 ho hg hf; have PF := put_facts HG1.out hg HO1.out ho S3.out R0.out R1.out HS.out.2.1; obtain ⟨a4, c4, hv4⟩ := ho.form; obtain ⟨n4, hn4⟩ : ∃ k, ([] ++ LL ++ [x]).length = k := ⟨_, rfl⟩; rw [hn4] at hv4; have HO2 := hide1 ho; clear hn4 ho hg hf; subst hv4; obtain ⟨_, g1, _, _, x1, _⟩ := box3 PF.1; obtain ⟨c0, c1, c2, _, _, _⟩ := box3 PF.2.1; obtain ⟨d0, _, _, f0, _, _⟩ := box3 PF.2.2.1; obtain ⟨f1, d1, f2, d2⟩ := free3 (x' := .int .i64 (b : Int)) (y' := .slice a4 n4 c4) PF.2.2.1; have HPF := hide1 PF; clear PF)))
  refine ret_o3 Tryz.results88 b1 _ _ _ _ _ rfl rfl rfl (set_box3 HPF.out.2.2.1) rfl ⟨_, rfl, ?_, ?_⟩
  · have h9 := HPF.out.2.2.2.1
    rw [List.nil_append] at h9
    have hk : Kp (fun k => k = b1) (W4.setCell ⟨b0, 1, none⟩ (.slice a4 n4 c4)) ((((W4.setCell ⟨b0, 1, none⟩ (.slice a4 n4 c4)).setCell ⟨b1, 0, none⟩ (.int .i64 (b : Int))).setCell ⟨b1, 1, none⟩ (.slice a4 n4 c4)).setCell ⟨b1, 2, none⟩ (.int .i64 (c : Int))) := ((Kp.setCell (F := fun k => k = b1) _ b1 0 _ rfl).trans (Kp.setCell (F := fun k => k = b1) _ b1 1 _ rfl)).trans (Kp.setCell (F := fun k => k = b1) _ b1 2 _ rfl)
    exact (h9.kp hk fun k hk e => by have := (h9.lt hk).1; omega).mono (by have := HS.out; omega)
  · exact below_set3 (B3.out.trans (HPF.out.2.2.2.2.mono (by have := HS.out; omega))) (by have := HS.out; omega)

end Go.Proofs.YtcadlcpccemkbaaGreatDoor
