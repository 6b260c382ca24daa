/- The reader's bits, as its callers see them. The document's value of bytes. The document's reader: Failed, Take, Number. -/
import Derived.Test.YtmmhfipdolbinaaGreatDoorSb
import Derived.Test.YtmmhfipdolbinaaGreatDoorWb
import Derived.Test.YtmmhfipdolbinaaGreatDoorMSdRx
namespace Go.Proofs.YtmmhfipdolbinaaGreatDoor
open Go.RowKit
set_option maxRecDepth 100000
attribute [local go_sem] not_any mf_any field_words

def btV (most : Int) (R : List Nat) : List Bool := if btC most R = 0 then btL R else []
def BtP (g k : Nat) (s f field : ByteArray) (most : Int) (w : World) (e : Ending) (w' : World) : Prop :=
  ∃ (n : Nat) (a : Option Addr), e = .returned (.agg #[.int .i64 (n : Int), .slice a (need n 64) (need n 64)]) ∧ n ≤ 524288 ∧ Vc w.heap.size w' n a (btV most (restOf s k)) ∧ w'.heap[g]? = some (rdN s k (btS most (restOf s k)) f field (btC most (restOf s k))) ∧ But g w w'
theorem btS_le {most : Int} {R : List Nat} : btS most R ≤ 1000000 := by
  unfold btS
  split
  · omega
  · rename_i h2
    have hl := (lstH_length (Classical.not_not.1 h2)).2.2
    have hm := mostN_le most 524288
    rw [need8]
    omega

set_option maxHeartbeats 1000000 in
theorem rBits_any0 (g k : Nat) (s f field : ByteArray) (most : Int) (w : World) (h : w.heap[g]? = some (rdr s k 0 f)) (hk : k ≤ s.size) (hs : s.size ≤ 281474976710656) :
    Calls Tryz.prog 21 #[.pointer (some ⟨g, 0, none⟩), .string field, .int .i64 most] w (BtP g k s f field most w) := by
  have lt := lt_heap h
  obtain ⟨W1, hW1⟩ : ∃ W1, (w.alloc (.cells #[.int .i64 most] 3)).alloc (.cells #[.int .i64 0, .slice none 0 0] 60) = W1 := ⟨_, rfl⟩
  have hB1 : Below w.heap.size w W1 := by rw [← hW1]; exact ((Below.refl _ _).alloc (Nat.le_refl _) _).alloc (by simp) _
  have hv0 : W1.heap[w.heap.size]? = some (.cells #[.int .i64 most] 3 (0, 0)) := by rw [← hW1]; exact heap_alloc2_old _ _ _
  have hv1 : W1.heap[w.heap.size + 1]? = some (.cells #[.int .i64 0, .slice none 0 0] 60 (0, 0)) := by rw [← hW1]; exact heap_alloc2_new _ _ _
  have hz : W1.heap.size = w.heap.size + 2 := by rw [← hW1]; simp
  have k1 := hide1 (read_vec g k (btS most (restOf s k)) s f field (btC most (restOf s k)) w.heap.size (btL (restOf s k)) W1 ((hB1.block g lt).trans h) hk hs (Nat.le_trans btS_le (by decide))
    (fun w' hb => (bits1_any most w.heap.size (s.extract k s.size) w' (boxed ((hb.block _ (lt_heap hv0)).trans hv0)) (size_rest hs)).mono (by
      intro e w2 hp
      rw [restOf_nums] at hp
      exact hp)))
  have HE : Hid (∀ e w', RdP g k (btS most (restOf s k)) s f field (btC most (restOf s k)) W1 (fun e w' => ∃ (n : Nat) (a : Option Addr), e = .returned (.agg #[.int .i64 (n : Int), .slice a (need n 64) (need n 64)]) ∧ n ≤ 524288 ∧ Vc W1.heap.size w' n a (btL (restOf s k))) (.agg #[.int .i64 0, .slice none 0 0]) e w' →
      ∃ (n : Nat) (a : Option Addr), e = .returned (.agg #[.int .i64 (n : Int), .slice a (need n 64) (need n 64)]) ∧ w'.heap[w.heap.size + 1]? = some (.cells #[.int .i64 0, .slice none 0 0] 60 (0, 0)) ∧
        BtP g k s f field most w (.returned (.agg #[.int .i64 (n : Int), .slice a (need n 64) (need n 64)])) ((w'.setCell ⟨w.heap.size + 1, 0, none⟩ (.int .i64 (n : Int))).setCell ⟨w.heap.size + 1, 1, none⟩ (.slice a (need n 64) (need n 64)))) := fun e w' hp => by
    have hrow := (hp.but.block (w.heap.size + 1) (by omega) (by omega)).trans hv1
    have hbt := fun v v' => ((But.of_below (b := g) hB1).trans hp.but).sets (B := w.heap.size + 1) (by omega) (o := 0) (o' := 1) (v := v) (v' := v')
    by_cases hc : btC most (restOf s k) = 0
    · obtain ⟨n, a, he, hn, hv⟩ := hp.good hc
      refine ⟨n, a, he, hrow, n, a, rfl, hn, ?_, (Below.heap_setCell _ _ _ _ (by simp; omega)).trans ((Below.heap_setCell _ _ _ _ (by simp; omega)).trans hp.row), hbt _ _⟩
      rw [btV, if_pos hc]
      exact ((hv.setCell (by simp; omega) _).setCell (by simp; omega) _).mono (by omega)
    · refine ⟨0, none, hp.bad hc, hrow, 0, none, rfl, by omega, ?_, (Below.heap_setCell _ _ _ _ (by simp; omega)).trans ((Below.heap_setCell _ _ _ _ (by simp; omega)).trans hp.row), hbt _ _⟩
      rw [btV, if_neg hc]
      exact nil_at _ _
  have HW1 := hide1 hW1
  clear h hB1 hv0 hv1 hz hW1
  generalize RdP g k (btS most (restOf s k)) s f field (btC most (restOf s k)) W1 (fun e w' => ∃ (n : Nat) (a : Option Addr), e = .returned (.agg #[.int .i64 (n : Int), .slice a (need n 64) (need n 64)]) ∧ n ≤ 524288 ∧ Vc W1.heap.size w' n a (btL (restOf s k))) (.agg #[.int .i64 0, .slice none 0 0]) = PR at *
  generalize BtP g k s f field most w = PP at *
  go_enter Tryz.func21, Tryz.ntmps21
  go_wp2_with fail
  rw [HW1.out]
  refine k1.out.mono ?_
  intro e w1 hp
  obtain ⟨n, a, rfl, hrow, hpp⟩ := HE.out e w1 hp
  obtain ⟨p0, p1, p2, p3, lp⟩ := box2 hrow
  have HROW := hide1 hrow
  have HPP := hide1 hpp
  clear hp k1 hpp HE hrow HW1
  go_wp2
  exact ret_vec Tryz.results21 (w.heap.size + 1) _ _ rfl (set_box2 HROW.out) rfl HPP.out

def BOver (g k : Nat) (s f : ByteArray) (c : Int) (w : World) (e : Ending) (w' : World) : Prop :=
  e = .returned (.agg #[.int .i64 0, .slice none 0 0]) ∧ w'.heap[g]? = some (rdr s k c f) ∧ But g w w'
theorem rBits_over (g k : Nat) (s f field : ByteArray) (most c : Int) (w : World) (h : w.heap[g]? = some (rdr s k c f)) (hc : c ≠ 0) :
    Calls Tryz.prog 21 #[.pointer (some ⟨g, 0, none⟩), .string field, .int .i64 most] w (BOver g k s f c w) := by
  have lt := lt_heap h
  obtain ⟨W1, hW1⟩ : ∃ W1, (w.alloc (.cells #[.int .i64 most] 3)).alloc (.cells #[.int .i64 0, .slice none 0 0] 60) = W1 := ⟨_, rfl⟩
  have hB1 : Below w.heap.size w W1 := by rw [← hW1]; exact ((Below.refl _ _).alloc (Nat.le_refl _) _).alloc (by simp) _
  have hv1 : W1.heap[w.heap.size + 1]? = some (.cells #[.int .i64 0, .slice none 0 0] 60 (0, 0)) := by rw [← hW1]; exact heap_alloc2_new _ _ _
  have hR := (hB1.block g lt).trans h
  have k1 := fun fv => hide1 (over_vec g k s f field c fv W1 hR hc)
  have HB1 := hide1 hB1
  have HV1 := hide1 hv1
  have HR := hide1 hR
  have HW1 := hide1 hW1
  have HLT := hide1 lt
  clear h hB1 hv1 hR hW1 lt
  go_enter Tryz.func21, Tryz.ntmps21
  go_wp2_with fail
  rw [HW1.out]
  refine (k1 _).out.mono ?_
  rintro e w1 ⟨rfl, hb⟩
  have hrow := (hb.block _ (lt_heap HV1.out)).trans HV1.out
  have hR1 := (hb.block _ (lt_heap HR.out)).trans HR.out
  obtain ⟨p0, p1, p2, p3, lp⟩ := box2 hrow
  have HROW := hide1 hrow
  have HR1 := hide1 hR1
  have HB2 := hide1 (HB1.out.trans (hb.mono HB1.out.size))
  clear k1 hrow hb hR1 HW1
  go_wp2
  exact ret_vec Tryz.results21 (w.heap.size + 1) _ _ rfl (set_box2 HROW.out) rfl ⟨rfl, (Below.heap_setCell _ _ _ _ (by have := HLT.out; simp; omega)).trans ((Below.heap_setCell _ _ _ _ (by have := HLT.out; simp; omega)).trans HR1.out), (But.of_below HB2.out).sets (by omega)⟩
end Go.Proofs.YtmmhfipdolbinaaGreatDoor

namespace Go.Proofs.YtmmhfipdolbinaaGreatDoor
open Go.RowKit
set_option maxRecDepth 100000
attribute [local go_sem] not_any mf_any

set_option maxHeartbeats 1000000 in
theorem value_any (s : ByteArray) (w : World) (hs : s.size ≤ 8) :
    Calls Tryz.prog 40 #[.string s] w fun e w' => e = .returned (.int .u64 (val (nums s) : Nat)) ∧ w' = w := by
  have HL := nums_all s
  go_enter Tryz.func40, Tryz.ntmps40
  go_wp2
  go_loop [3, 4] (fun x i => ∃ k : Nat, k ≤ s.size ∧ i = .int .i64 k ∧ x = .int .u64 (val ((nums s).take k) : Nat)) (fun _ i => s.size - (intOf i).toNat)
  case atStart => exact ⟨0, Nat.zero_le _, rfl, rfl⟩
  case round =>
    obtain ⟨k, hk, rfl, rfl⟩ := hrel
    by_cases hlt : k < s.size
    · have hv := val_lt _ (HL.take k)
      have hx := nums_at hlt
      have hb := nums_lt hx
      have hts : (nums s).take (k + 1) = (nums s).take k ++ [(s[k]'hlt).toNat] := by rw [List.take_add_one, hx]; rfl
      have HS : Shy (val ((nums s).take (k + 1)) = 256 * val ((nums s).take k) + (s[k]'hlt).toNat) := ⟨by rw [hts, val_snoc]⟩
      have hk8 : ((nums s).take k).length = k := by rw [List.length_take, nums_length]; omega
      rw [hk8] at hv
      have hv2 : 256 * val ((nums s).take k) + 256 ≤ 18446744073709551616 := by
        have : 256 ^ (k + 1) ≤ 256 ^ 8 := Nat.pow_le_pow_right (by omega) (by omega)
        rw [Nat.pow_succ] at this
        omega
      clear hts hv hx hk8
      generalize val ((nums s).take k) = v at *
      have h1 : IntKind.u64.wrap (256 * (v : Int)) = 256 * (v : Int) := by rw [IntKind.wrap_u64]; omega
      have h2 : IntKind.u64.wrap (256 * (v : Int) + ((s[k]'hlt).toNat : Int)) = 256 * (v : Int) + ((s[k]'hlt).toNat : Int) := by rw [IntKind.wrap_u64]; omega
      clear HL
      go_wp2
      go_round
      case rel => exact ⟨k + 1, by omega, by go_num, by rw [HS.out]; simp⟩
      case measure => simp [intOf]; omega
    · have : k = s.size := by omega
      go_wp2
      go_ret
      rw [List.take_of_length_le (by rw [nums_length]; omega)]
      exact ⟨rfl, rfl⟩
end Go.Proofs.YtmmhfipdolbinaaGreatDoor

namespace Go.Proofs.YtmmhfipdolbinaaGreatDoor
open Go.RowKit
set_option maxRecDepth 100000
attribute [local go_sem] not_any mf_any

/- the document's reader: its bytes, how many are read, the first fault -/
def dv (s : ByteArray) (k : Nat) (c : Int) : Value := .agg #[.string s, .int .i64 (k : Int), .int .i64 c]
def drow (s : ByteArray) (k : Nat) (c : Int) : Obj := .cells #[.string s, .int .i64 (k : Int), .int .i64 c] 27 (0, 0)
theorem ret_d1 {fn : Func} {p : Tmp} (h : fn.results = #[.cell p 27]) {R : Ending → World → Prop} {a : Act} {w : World} (g : Nat) (x y z : Value) (hp : a.tmps.getD p undef = .pointer (some ⟨g, 0, none⟩))
    (hg : w.heap[g]? = some (.cells #[x, y, z] 27 (0, 0))) (hd : a.defers = []) (hR : R (.returned (.agg #[x, y, z])) w) : bodyPost Tryz.prog fn R .ret a w := by
  refine bodyPost_ret_by (v := .agg #[x, y, z]) ?_ hd hR
  exact results_cell_row h _ w g 27 #[x, y, z] (0, 0) _ hp hg Tryz.underlying27 rfl (by kernel_rfl)
theorem ret_d2 {fn : Func} {p u : Tmp} (h : fn.results = #[.cell p 27, .tmp u]) {R : Ending → World → Prop} {a : Act} {w : World} (g : Nat) (x y z v : Value) (hp : a.tmps.getD p undef = .pointer (some ⟨g, 0, none⟩))
    (hu : a.tmps.getD u undef = v) (hg : w.heap[g]? = some (.cells #[x, y, z] 27 (0, 0))) (hd : a.defers = []) (hR : R (.returned (.tuple #[.agg #[x, y, z], v])) w) : bodyPost Tryz.prog fn R .ret a w := by
  refine bodyPost_ret_by (v := .tuple #[.agg #[x, y, z], v]) ?_ hd hR
  have hl := run_loadVar_row (P := Tryz.prog) w g 27 27 #[x, y, z] (0, 0) _ hg Tryz.underlying27 rfl (by kernel_rfl)
  rw [results_cell_tmp h, hp, hu]
  simp [asAddr, hl, Result.andThen]

def fst (c e : Int) : Int := if c = 0 then e else c
theorem fst_zero (e : Int) : fst 0 e = e := rfl
theorem fst_not {c : Int} (h : c ≠ 0) (e : Int) : fst c e = c := if_neg h
theorem two_below {w : World} (o o' : Obj) : Below w.heap.size w ((w.alloc o).alloc o') := ((Below.refl _ _).alloc (Nat.le_refl _) _).alloc (by simp) _
theorem failed_any (s : ByteArray) (k : Nat) (c e : Int) (w : World) :
    Calls Tryz.prog 26 #[dv s k c, .int .i64 e] w fun en w' => en = .returned (dv s k (fst c e)) ∧ Below w.heap.size w w' := by
  unfold dv
  by_cases hc : c = 0
  · subst hc
    go_enter Tryz.func26, Tryz.ntmps26
    go_wp2
    exact ret_d1 Tryz.results26 (w.heap.size + 1) _ _ _ rfl (heap_alloc2_new _ _ _) rfl ⟨rfl, two_below _ _⟩
  · rw [fst_not hc]
    go_enter Tryz.func26, Tryz.ntmps26
    go_wp2
    exact ret_d1 Tryz.results26 (w.heap.size + 1) _ _ _ rfl (heap_alloc2_new _ _ _) rfl ⟨rfl, two_below _ _⟩

theorem take_over (s : ByteArray) (k : Nat) (c n : Int) (w : World) (hc : c ≠ 0) :
    Calls Tryz.prog 39 #[dv s k c, .int .i64 n] w fun en w' => en = .returned (.tuple #[dv s k c, .string ⟨#[]⟩]) ∧ Below w.heap.size w w' := by
  unfold dv
  have hcb : (c != 0) = true := by simp [hc]
  go_enter Tryz.func39, Tryz.ntmps39
  go_wp2
  exact ret_d2 Tryz.results39 (w.heap.size + 1) _ _ _ _ rfl rfl (heap_alloc2_new _ _ _) rfl ⟨rfl, two_below _ _⟩
theorem box3 {w : World} {g : Nat} {x y z : Value} {t : TypeId} (h : w.heap[g]? = some (.cells #[x, y, z] t (0, 0))) :
    w.cell? ⟨g, 0, none⟩ = some x ∧ w.cell? ⟨g, 1, none⟩ = some y ∧ w.cell? ⟨g, 2, none⟩ = some z ∧ w.frozen? ⟨g, 0, none⟩ = false ∧ w.frozen? ⟨g, 1, none⟩ = false ∧ w.frozen? ⟨g, 2, none⟩ = false ∧ g < w.heap.size :=
  ⟨by rw [cell_of_row w g 0 _ _ _ h]; rfl, by rw [cell_of_row w g 1 _ _ _ h]; rfl, by rw [cell_of_row w g 2 _ _ _ h]; rfl, frozen_of_row w g 0 _ _ h, frozen_of_row w g 1 _ _ h, frozen_of_row w g 2 _ _ h, lt_heap h⟩
theorem set_box3 {w : World} {g : Nat} {x y z x' y' z' : Value} {t : TypeId} (h : w.heap[g]? = some (.cells #[x, y, z] t (0, 0))) :
    (((w.setCell ⟨g, 0, none⟩ x').setCell ⟨g, 1, none⟩ y').setCell ⟨g, 2, none⟩ z').heap[g]? = some (.cells #[x', y', z'] t (0, 0)) := by
  rw [heap_setCell_same _ g 2 _ _ _ (heap_setCell_same _ g 1 _ _ _ (heap_setCell_same w g 0 _ _ _ h))]; rfl
theorem below_box3 {B : Nat} {w w' : World} {g : Nat} {x y z : Value} (h : Below B w w') (hB : B ≤ g) : Below B w (((w'.setCell ⟨g, 0, none⟩ x).setCell ⟨g, 1, none⟩ y).setCell ⟨g, 2, none⟩ z) := ((h.setCell hB _).setCell hB _).setCell hB _
theorem two_trans {w w' : World} {o o' : Obj} (h : Below ((w.alloc o).alloc o').heap.size ((w.alloc o).alloc o') w') : Below w.heap.size w w' := (two_below o o').trans (h.mono (two_below o o').size)

theorem keep_alloc {w : World} {b : Nat} {o : Obj} (h : w.heap[b]? = some o) (o' : Obj) : (w.alloc o').heap[b]? = some o := (Below.heap_alloc _ _ _ (lt_heap h)).trans h

theorem take_short (s : ByteArray) (k : Nat) (n : Nat) (w : World) (hk : k ≤ s.size) (hs : s.size ≤ 281474976710656) (h : s.size < k + n) :
    Calls Tryz.prog 39 #[dv s k 0, .int .i64 (n : Int)] w fun en w' => en = .returned (.tuple #[dv s k 12, .string ⟨#[]⟩]) ∧ Below w.heap.size w w' := by
  have kF := fun w => hide1 (failed_any s k 0 12 w)
  rw [fst_zero] at kF
  unfold dv at *
  have hgt : ((s.size : Int) - (k : Int) < (n : Int)) := by omega
  have hwr : IntKind.i64.wrap ((s.size : Int) - (k : Int)) = (s.size : Int) - (k : Int) := by rw [IntKind.wrap_i64]; omega
  go_enter Tryz.func39, Tryz.ntmps39
  go_upto_region 4 with (fail)
  generalize hX : World.alloc (World.alloc w _) _ = X
  have HX : Hid (Below w.heap.size w X) := by rw [← hX]; exact two_below _ _
  have h0 := hX ▸ heap_alloc2_old w _ _
  have h1 := hX ▸ heap_alloc2_new w _ _
  obtain ⟨c0, c1, c2, _, _, _, l0⟩ := box3 h0
  have H1 := hide1 h1
  clear hX h0 h1
  go_wp2_with (go_at_call 26; refine (kF _).out.mono ?_; rintro e w1 ⟨rfl, hb1⟩; have h1 := (hb1.block _ (lt_heap H1.out)).trans H1.out; have H2 := hide1 h1; obtain ⟨d0, d1, d2, f0, f1, f2, l1⟩ := box3 h1; have HB := hide1 (HX.out.trans (hb1.mono HX.out.size)); clear h1 hb1)
  exact ret_d2 Tryz.results39 (w.heap.size + 1) _ _ _ _ rfl rfl (set_box3 H2.out) rfl ⟨rfl, below_box3 HB.out (by omega)⟩
theorem take_some (s : ByteArray) (k : Nat) (n : Nat) (w : World) (hs : s.size ≤ 281474976710656) (h : k + n ≤ s.size) :
    Calls Tryz.prog 39 #[dv s k 0, .int .i64 (n : Int)] w fun en w' => en = .returned (.tuple #[dv s (k + n) 0, .string (s.extract k (k + n))]) ∧ Below w.heap.size w w' := by
  have mx := mixed
  unfold dv at *
  have hgt : ¬ ((s.size : Int) - (k : Int) < (n : Int)) := by omega
  have hwr : IntKind.i64.wrap ((s.size : Int) - (k : Int)) = (s.size : Int) - (k : Int) := by rw [IntKind.wrap_i64]; omega
  have hwk : IntKind.i64.wrap ((k : Int) + (n : Int)) = ((k + n : Nat) : Int) := by rw [IntKind.wrap_i64]; omega
  have hcut := fun w => run_cut s k (k + n) (by omega) h w
  go_enter Tryz.func39, Tryz.ntmps39
  go_wp2
  exact ret_d2 Tryz.results39 (w.heap.size + 1) _ _ _ _ rfl rfl (heap_alloc2_new _ _ _) rfl ⟨rfl, two_below _ _⟩

/- Number, by what Take answers -/
set_option maxHeartbeats 1000000 in
theorem dnumber_via (s : ByteArray) (k k1 n : Nat) (c c1 : Int) (t : ByteArray) (w : World) (ht : t.size ≤ 8)
    (HT : ∀ w, Calls Tryz.prog 39 #[dv s k c, .int .i64 (n : Int)] w fun en w' => en = .returned (.tuple #[dv s k1 c1, .string t]) ∧ Below w.heap.size w w') :
    Calls Tryz.prog 8 #[dv s k c, .int .i64 (n : Int)] w fun en w' => en = .returned (.tuple #[dv s k1 c1, .int .u64 (val (nums t) : Nat)]) ∧ Below w.heap.size w w' := by
  have mx := mixed
  have kT := fun w => hide1 (HT w)
  have kV := fun w => hide1 (value_any t w ht)
  clear HT
  generalize val (nums t) = v at *
  unfold dv at *
  go_enter Tryz.func8, Tryz.ntmps8
  go_upto_region 1 with (fail)
  generalize hX : World.alloc (World.alloc w _) _ = X
  have HX : Hid (Below w.heap.size w X) := by rw [← hX]; exact two_below _ _
  have h0 := hX ▸ heap_alloc2_old w _ _
  have h1 := hX ▸ heap_alloc2_new w _ _
  obtain ⟨c0, c1, c2, _, _, _, l0⟩ := box3 h0
  have H1 := hide1 h1
  clear hX h0 h1
  go_upto_region 2 with (go_at_call 39; refine (kT _).out.mono ?_; rintro e w1 ⟨rfl, hb1⟩; have h1 := (hb1.block _ (lt_heap H1.out)).trans H1.out; have H2 := hide1 h1; obtain ⟨d0, d1, d2, f0, f1, f2, l1⟩ := box3 h1; have HB := hide1 (HX.out.trans (hb1.mono HX.out.size)); clear h1 hb1)
  clear c0 c1 c2 l0 HX d0 d1 d2 f0 f1 f2
  generalize hY : World.alloc w1 _ = Y
  have HY : Hid (Below w.heap.size w Y) := by rw [← hY]; exact HB.out.alloc HB.out.size _
  have h0 := hY ▸ heap_alloc_new w1 _
  have h1 := hY ▸ keep_alloc H2.out _
  obtain ⟨c0, c1, c2, _, _, _, l0⟩ := box3 h0
  obtain ⟨d0, d1, d2, f0, f1, f2, l1'⟩ := box3 h1
  have H3 := hide1 h1
  have hne : w1.heap.size ≠ w.heap.size + 1 := by omega
  clear hY h0 h1
  go_region_with (go_at_call 40; refine (kV _).out.mono ?_; rintro e w2 ⟨rfl, rfl⟩)
  all_goals
    go_wp2
    exact ret_d2 Tryz.results8 (w.heap.size + 1) _ _ _ _ rfl rfl (set_box3 (w := Y) H3.out) rfl ⟨rfl, (below_box3 HY.out (by omega)).drew⟩

/- what a reading of the document leaves behind, where nothing had failed -/
def dN (s : ByteArray) (k sz : Nat) (code : Int) : Value := if code = 0 then dv s (k + sz) 0 else dv s k code
theorem dN_ok (s : ByteArray) (k sz : Nat) : dN s k sz 0 = dv s (k + sz) 0 := rfl
theorem dN_no (s : ByteArray) (k sz : Nat) {code : Int} (h : code ≠ 0) : dN s k sz code = dv s k code := if_neg h
theorem restOf_length (s : ByteArray) (k : Nat) : (restOf s k).length = s.size - k := by rw [restOf, List.length_drop, nums_length]
theorem take_nums (s : ByteArray) (k n : Nat) : nums (s.extract k (k + n)) = (restOf s k).take n := by
  rw [nums_extract, restOf, List.drop_take, Nat.add_sub_cancel_left]
theorem take_txt (s : ByteArray) (k n : Nat) : s.extract k (k + n) = txt ((restOf s k).take n) := by
  apply nums_inj
  rw [take_nums, nums_txt ((restOf_lt s k).take n)]
theorem dnumber_over (s : ByteArray) (k n : Nat) (c : Int) (w : World) (hc : c ≠ 0) :
    Calls Tryz.prog 8 #[dv s k c, .int .i64 (n : Int)] w fun en w' => en = .returned (.tuple #[dv s k c, .int .u64 0]) ∧ Below w.heap.size w w' :=
  dnumber_via s k k n c c ⟨#[]⟩ w (by decide) (fun w => take_over s k c n w hc)
theorem dnumber_any (s : ByteArray) (k n : Nat) (w : World) (hk : k ≤ s.size) (hs : s.size ≤ 281474976710656) (hn : n ≤ 8) :
    Calls Tryz.prog 8 #[dv s k 0, .int .i64 (n : Int)] w fun en w' => en = .returned (.tuple #[dN s k n (numC n (restOf s k)), .int .u64 (numX n (restOf s k) : Nat)]) ∧ Below w.heap.size w w' := by
  have hl := restOf_length s k
  by_cases h : n ≤ (restOf s k).length
  · have h1 := dnumber_via s k (k + n) n 0 0 (s.extract k (k + n)) w (by rw [size_nums, take_nums, List.length_take]; omega) (fun w => take_some s k n w hs (by omega))
    rw [take_nums] at h1
    rw [numC, if_pos h, numX, if_pos h, dN_ok]
    exact h1
  · rw [numC, if_neg h, numX, if_neg h, dN_no _ _ _ (by decide)]
    exact dnumber_via s k k n 0 12 ⟨#[]⟩ w (by decide) (fun w => take_short s k n w hk hs (by omega))
end Go.Proofs.YtmmhfipdolbinaaGreatDoor
