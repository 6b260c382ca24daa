/- The document's reader: Failed, Take, Number. -/
import Derived.Test.YtnkdbkhgfakjaaaGreatDoorSd
import Derived.Test.YtnkdbkhgfakjaaaGreatDoorRv
import Derived.Test.YtnkdbkhgfakjaaaGreatDoorRw
namespace Go.Proofs.YtnkdbkhgfakjaaaGreatDoor
open Go.RowKit
set_option maxRecDepth 100000
attribute [local go_sem] not_any mf_any

theorem run_cut (s : ByteArray) (p q : Nat) (h1 : p ≤ q) (h2 : q ≤ s.size) (w : World) : (Instr.slice 9 (.string s) (some (.int .i64 (p : Int))) (some (.int .i64 (q : Int))) none).run Tryz.prog w = .ok (.string (s.extract p q)) w := by
  have := run_slice_string (P := Tryz.prog) w 9 s .i64 .i64 (p : Int) (q : Int) Tryz.underlying9 (by omega) (by omega) (by omega)
  simpa using this

/- the document's reader: its bytes, how many are read, the first fault -/
def dv (s : ByteArray) (k : Nat) (c : Int) : Value := .agg #[.string s, .int .i64 (k : Int), .int .i64 c]
def drow (s : ByteArray) (k : Nat) (c : Int) : Obj := .cells #[.string s, .int .i64 (k : Int), .int .i64 c] 29 (0, 0)
theorem ret_d1 {fn : Func} {p : Tmp} (h : fn.results = #[.cell p 29]) {R : Ending → World → Prop} {a : Act} {w : World} (g : Nat) (x y z : Value) (hp : a.tmps.getD p undef = .pointer (some ⟨g, 0, none⟩))
    (hg : w.heap[g]? = some (.cells #[x, y, z] 29 (0, 0))) (hd : a.defers = []) (hR : R (.returned (.agg #[x, y, z])) w) : bodyPost Tryz.prog fn R .ret a w := by
  refine bodyPost_ret_by (v := .agg #[x, y, z]) ?_ hd hR
  exact results_cell_row h _ w g 29 #[x, y, z] (0, 0) _ hp hg Tryz.underlying29 rfl (by kernel_rfl)
theorem ret_d2 {fn : Func} {p u : Tmp} (h : fn.results = #[.cell p 29, .tmp u]) {R : Ending → World → Prop} {a : Act} {w : World} (g : Nat) (x y z v : Value) (hp : a.tmps.getD p undef = .pointer (some ⟨g, 0, none⟩))
    (hu : a.tmps.getD u undef = v) (hg : w.heap[g]? = some (.cells #[x, y, z] 29 (0, 0))) (hd : a.defers = []) (hR : R (.returned (.tuple #[.agg #[x, y, z], v])) w) : bodyPost Tryz.prog fn R .ret a w := by
  refine bodyPost_ret_by (v := .tuple #[.agg #[x, y, z], v]) ?_ hd hR
  have hl := run_loadVar_row (P := Tryz.prog) w g 29 29 #[x, y, z] (0, 0) _ hg Tryz.underlying29 rfl (by kernel_rfl)
  rw [results_cell_tmp h, hp, hu]
  simp [asAddr, hl, Result.andThen]

def fst (c e : Int) : Int := if c = 0 then e else c
theorem fst_zero (e : Int) : fst 0 e = e := rfl
theorem fst_not {c : Int} (h : c ≠ 0) (e : Int) : fst c e = c := if_neg h
theorem two_below {w : World} (o o' : Obj) : Below w.heap.size w ((w.alloc o).alloc o') := ((Below.refl _ _).alloc (Nat.le_refl _) _).alloc (by simp) _
theorem failed_any (s : ByteArray) (k : Nat) (c e : Int) (w : World) :
    Calls Tryz.prog 22 #[dv s k c, .int .i64 e] w fun en w' => en = .returned (dv s k (fst c e)) ∧ Below w.heap.size w w' := by
  unfold dv
  by_cases hc : c = 0
  · subst hc
    go_enter Tryz.func22, Tryz.ntmps22
    go_wp2
    exact ret_d1 Tryz.results22 (w.heap.size + 1) _ _ _ rfl (heap_alloc2_new _ _ _) rfl ⟨rfl, two_below _ _⟩
  · rw [fst_not hc]
    go_enter Tryz.func22, Tryz.ntmps22
    go_wp2
    exact ret_d1 Tryz.results22 (w.heap.size + 1) _ _ _ rfl (heap_alloc2_new _ _ _) rfl ⟨rfl, two_below _ _⟩

theorem take_over (s : ByteArray) (k : Nat) (c n : Int) (w : World) (hc : c ≠ 0) :
    Calls Tryz.prog 36 #[dv s k c, .int .i64 n] w fun en w' => en = .returned (.tuple #[dv s k c, .string ⟨#[]⟩]) ∧ Below w.heap.size w w' := by
  unfold dv
  have hcb : (c != 0) = true := by simp [hc]
  go_enter Tryz.func36, Tryz.ntmps36
  go_wp2
  exact ret_d2 Tryz.results36 (w.heap.size + 1) _ _ _ _ rfl rfl (heap_alloc2_new _ _ _) rfl ⟨rfl, two_below _ _⟩
theorem box3 {w : World} {g : Nat} {x y z : Value} {t : TypeId} (h : w.heap[g]? = some (.cells #[x, y, z] t (0, 0))) :
    w.cell? ⟨g, 0, none⟩ = some x ∧ w.cell? ⟨g, 1, none⟩ = some y ∧ w.cell? ⟨g, 2, none⟩ = some z ∧ w.frozen? ⟨g, 0, none⟩ = false ∧ w.frozen? ⟨g, 1, none⟩ = false ∧ w.frozen? ⟨g, 2, none⟩ = false ∧ g < w.heap.size :=
  ⟨by rw [cell_of_row w g 0 _ _ _ h]; rfl, by rw [cell_of_row w g 1 _ _ _ h]; rfl, by rw [cell_of_row w g 2 _ _ _ h]; rfl, frozen_of_row w g 0 _ _ h, frozen_of_row w g 1 _ _ h, frozen_of_row w g 2 _ _ h, lt_heap h⟩
theorem set_box3 {w : World} {g : Nat} {x y z x' y' z' : Value} {t : TypeId} (h : w.heap[g]? = some (.cells #[x, y, z] t (0, 0))) :
    (((w.setCell ⟨g, 0, none⟩ x').setCell ⟨g, 1, none⟩ y').setCell ⟨g, 2, none⟩ z').heap[g]? = some (.cells #[x', y', z'] t (0, 0)) := by
  rw [heap_setCell_same _ g 2 _ _ _ (heap_setCell_same _ g 1 _ _ _ (heap_setCell_same w g 0 _ _ _ h))]; rfl
theorem below_box3 {B : Nat} {w w' : World} {g : Nat} {x y z : Value} (h : Below B w w') (hB : B ≤ g) : Below B w (((w'.setCell ⟨g, 0, none⟩ x).setCell ⟨g, 1, none⟩ y).setCell ⟨g, 2, none⟩ z) := ((h.setCell hB _).setCell hB _).setCell hB _
theorem two_trans {w w' : World} {o o' : Obj} (h : Below ((w.alloc o).alloc o').heap.size ((w.alloc o).alloc o') w') : Below w.heap.size w w' := (two_below o o').trans (h.mono (two_below o o').size)

theorem keep_alloc {w : World} {b : Nat} {o : Obj} (h : w.heap[b]? = some o) (o' : Obj) : (w.alloc o').heap[b]? = some o := (Below.heap_alloc _ _ _ (lt_heap h)).trans h

theorem take_short (s : ByteArray) (k : Nat) (n : Nat) (w : World) (hk : k ≤ s.size) (hs : s.size ≤ 281474976710656) (h : s.size < k + n) :
    Calls Tryz.prog 36 #[dv s k 0, .int .i64 (n : Int)] w fun en w' => en = .returned (.tuple #[dv s k 12, .string ⟨#[]⟩]) ∧ Below w.heap.size w w' := by
  have kF := fun w => hide1 (failed_any s k 0 12 w)
  rw [fst_zero] at kF
  unfold dv at *
  have hgt : ((s.size : Int) - (k : Int) < (n : Int)) := by omega
  have hwr : IntKind.i64.wrap ((s.size : Int) - (k : Int)) = (s.size : Int) - (k : Int) := by rw [IntKind.wrap_i64]; omega
  go_enter Tryz.func36, Tryz.ntmps36
  go_upto_region 4 with (fail)
  generalize hX : World.alloc (World.alloc w _) _ = X
  have HX : Hid (Below w.heap.size w X) := by rw [← hX]; exact two_below _ _
  have h0 := hX ▸ heap_alloc2_old w _ _
  have h1 := hX ▸ heap_alloc2_new w _ _
  obtain ⟨c0, c1, c2, _, _, _, l0⟩ := box3 h0
  have H1 := hide1 h1
  clear hX h0 h1
  go_wp2_with (go_at_call 22; refine (kF _).out.mono ?_; rintro e w1 ⟨rfl, hb1⟩; have h1 := (hb1.block _ (lt_heap H1.out)).trans H1.out; have H2 := hide1 h1; obtain ⟨d0, d1, d2, f0, f1, f2, l1⟩ := box3 h1; have HB := hide1 (HX.out.trans (hb1.mono HX.out.size)); clear h1 hb1)
  exact ret_d2 Tryz.results36 (w.heap.size + 1) _ _ _ _ rfl rfl (set_box3 H2.out) rfl ⟨rfl, below_box3 HB.out (by omega)⟩
theorem take_some (s : ByteArray) (k : Nat) (n : Nat) (w : World) (hs : s.size ≤ 281474976710656) (h : k + n ≤ s.size) :
    Calls Tryz.prog 36 #[dv s k 0, .int .i64 (n : Int)] w fun en w' => en = .returned (.tuple #[dv s (k + n) 0, .string (s.extract k (k + n))]) ∧ Below w.heap.size w w' := by
  have mx := mixed
  unfold dv at *
  have hgt : ¬ ((s.size : Int) - (k : Int) < (n : Int)) := by omega
  have hwr : IntKind.i64.wrap ((s.size : Int) - (k : Int)) = (s.size : Int) - (k : Int) := by rw [IntKind.wrap_i64]; omega
  have hwk : IntKind.i64.wrap ((k : Int) + (n : Int)) = ((k + n : Nat) : Int) := by rw [IntKind.wrap_i64]; omega
  have hcut := fun w => run_cut s k (k + n) (by omega) h w
  go_enter Tryz.func36, Tryz.ntmps36
  go_wp2
  exact ret_d2 Tryz.results36 (w.heap.size + 1) _ _ _ _ rfl rfl (heap_alloc2_new _ _ _) rfl ⟨rfl, two_below _ _⟩

/- Number, by what Take answers -/
set_option maxHeartbeats 1000000 in
theorem dnumber_via (s : ByteArray) (k k1 n : Nat) (c c1 : Int) (t : ByteArray) (w : World) (ht : t.size ≤ 8)
    (HT : ∀ w, Calls Tryz.prog 36 #[dv s k c, .int .i64 (n : Int)] w fun en w' => en = .returned (.tuple #[dv s k1 c1, .string t]) ∧ Below w.heap.size w w') :
    Calls Tryz.prog 20 #[dv s k c, .int .i64 (n : Int)] w fun en w' => en = .returned (.tuple #[dv s k1 c1, .int .u64 (val (nums t) : Nat)]) ∧ Below w.heap.size w w' := by
  have mx := mixed
  have kT := fun w => hide1 (HT w)
  have kV := fun w => hide1 (value_any t w ht)
  clear HT
  generalize val (nums t) = v at *
  unfold dv at *
  go_enter Tryz.func20, Tryz.ntmps20
  go_upto_region 1 with (fail)
  generalize hX : World.alloc (World.alloc w _) _ = X
  have HX : Hid (Below w.heap.size w X) := by rw [← hX]; exact two_below _ _
  have h0 := hX ▸ heap_alloc2_old w _ _
  have h1 := hX ▸ heap_alloc2_new w _ _
  obtain ⟨c0, c1, c2, _, _, _, l0⟩ := box3 h0
  have H1 := hide1 h1
  clear hX h0 h1
  go_upto_region 2 with (go_at_call 36; refine (kT _).out.mono ?_; rintro e w1 ⟨rfl, hb1⟩; have h1 := (hb1.block _ (lt_heap H1.out)).trans H1.out; have H2 := hide1 h1; obtain ⟨d0, d1, d2, f0, f1, f2, l1⟩ := box3 h1; have HB := hide1 (HX.out.trans (hb1.mono HX.out.size)); clear h1 hb1)
  clear c0 c1 c2 l0 HX d0 d1 d2 f0 f1 f2
  generalize hY : World.alloc w1 _ = Y
  have HY : Hid (Below w.heap.size w Y) := by rw [← hY]; exact HB.out.alloc HB.out.size _
  have h0 := hY ▸ heap_alloc_new w1 _
  have h1 := hY ▸ keep_alloc H2.out _
  obtain ⟨c0, c1, c2, _, _, _, l0⟩ := box3 h0
  obtain ⟨d0, d1, d2, f0, f1, f2, l1'⟩ := box3 h1
  have H3 := hide1 h1
  have hne : w1.heap.size ≠ w.heap.size + 1 := by omega
  clear hY h0 h1
  go_region_with (go_at_call 37; refine (kV _).out.mono ?_; rintro e w2 ⟨rfl, rfl⟩)
  all_goals
    go_wp2
    exact ret_d2 Tryz.results20 (w.heap.size + 1) _ _ _ _ rfl rfl (set_box3 (w := Y) H3.out) rfl ⟨rfl, (below_box3 HY.out (by omega)).drew⟩

/- what a reading of the document leaves behind, where nothing had failed -/
def dN (s : ByteArray) (k sz : Nat) (code : Int) : Value := if code = 0 then dv s (k + sz) 0 else dv s k code
theorem dN_ok (s : ByteArray) (k sz : Nat) : dN s k sz 0 = dv s (k + sz) 0 := rfl
theorem dN_no (s : ByteArray) (k sz : Nat) {code : Int} (h : code ≠ 0) : dN s k sz code = dv s k code := if_neg h
theorem restOf_length (s : ByteArray) (k : Nat) : (restOf s k).length = s.size - k := by rw [restOf, List.length_drop, nums_length]
theorem take_nums (s : ByteArray) (k n : Nat) : nums (s.extract k (k + n)) = (restOf s k).take n := by
  rw [nums_extract, restOf, List.drop_take, Nat.add_sub_cancel_left]
theorem take_txt (s : ByteArray) (k n : Nat) : s.extract k (k + n) = txt ((restOf s k).take n) := by
  apply nums_inj
  rw [take_nums, nums_txt ((restOf_lt s k).take n)]
theorem dnumber_over (s : ByteArray) (k n : Nat) (c : Int) (w : World) (hc : c ≠ 0) :
    Calls Tryz.prog 20 #[dv s k c, .int .i64 (n : Int)] w fun en w' => en = .returned (.tuple #[dv s k c, .int .u64 0]) ∧ Below w.heap.size w w' :=
  dnumber_via s k k n c c ⟨#[]⟩ w (by decide) (fun w => take_over s k c n w hc)
theorem dnumber_any (s : ByteArray) (k n : Nat) (w : World) (hk : k ≤ s.size) (hs : s.size ≤ 281474976710656) (hn : n ≤ 8) :
    Calls Tryz.prog 20 #[dv s k 0, .int .i64 (n : Int)] w fun en w' => en = .returned (.tuple #[dN s k n (numC n (restOf s k)), .int .u64 (numX n (restOf s k) : Nat)]) ∧ Below w.heap.size w w' := by
  have hl := restOf_length s k
  by_cases h : n ≤ (restOf s k).length
  · have h1 := dnumber_via s k (k + n) n 0 0 (s.extract k (k + n)) w (by rw [size_nums, take_nums, List.length_take]; omega) (fun w => take_some s k n w hs (by omega))
    rw [take_nums] at h1
    rw [numC, if_pos h, numX, if_pos h, dN_ok]
    exact h1
  · rw [numC, if_neg h, numX, if_neg h, dN_no _ _ _ (by decide)]
    exact dnumber_via s k k n 0 12 ⟨#[]⟩ w (by decide) (fun w => take_short s k n w hk hs (by omega))
end Go.Proofs.YtnkdbkhgfakjaaaGreatDoor
