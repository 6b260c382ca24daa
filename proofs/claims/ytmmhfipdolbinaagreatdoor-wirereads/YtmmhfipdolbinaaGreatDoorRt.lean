/- What the bytes that are left say: numbers, texts, lists. -/
import Derived.Test.YtmmhfipdolbinaaGreatDoorWb
import Derived.Test.YtmmhfipdolbinaaGreatDoorFr
namespace Go.Proofs.YtmmhfipdolbinaaGreatDoor
open Go.RowKit
set_option maxRecDepth 100000
attribute [local go_sem] not_any mf_any

/- a number of n bytes: its code and its value -/
def numC (n : Nat) (R : List Nat) : Int := if n ≤ R.length then 0 else 12
def numX (n : Nat) (R : List Nat) : Nat := if n ≤ R.length then val (R.take n) else 0

theorem boxed {w : World} {b : Nat} {v : Value} {t : TypeId} (h : w.heap[b]? = some (.cells #[v] t (0, 0))) : w.cell? ⟨b, 0, none⟩ = some v := by
  rw [cell_of_row w b 0 _ _ _ h]; rfl

set_option maxHeartbeats 1000000 in
theorem number1_any (n b : Nat) (t : ByteArray) (w : World) (hn : n ≤ 8) (hbx : w.cell? ⟨b, 0, none⟩ = some (.int .i64 (n : Int))) :
    Calls Tryz.prog 77 #[.string t, .pointer (some ⟨b, 0, none⟩)] w fun e w' => e = .returned (.tuple #[.int .u64 (numX n (nums t) : Nat), .int .i64 (n : Int), .int .i64 (numC n (nums t))]) ∧ ∃ q, w' = w.drewN q := by
  have mx := mixed
  by_cases h : n ≤ t.size
  · have h1 : numX n (nums t) = val (nums (t.extract 0 n)) := by rw [numX, if_pos (by rw [nums_length]; exact h), nums_extract]; rfl
    have h2 : numC n (nums t) = 0 := by rw [numC, if_pos (by rw [nums_length]; exact h)]
    have k1 := hide1 (first_yes t n w h)
    have k2 := fun w => hide1 (numberOf_any (t.extract 0 n) w (by rw [size_nums, nums_extract, List.length_drop, List.length_take]; omega))
    rw [h1, h2]
    generalize val (nums (t.extract 0 n)) = v at *
    generalize t.extract 0 n = t1 at *
    clear h1 h2 h
    go_enter Tryz.func77, Tryz.ntmps77
    go_wp2_with (go_at_call 49; refine k1.out.mono ?_; rintro e w1 ⟨rfl, hw1⟩; cases hw1)
    go_quiet ((go_at_call 78; exact Calls.quiet_of_same (k2 _).out))
    go_wp2
    go_ret3
    exact ⟨rfl, nq, rfl⟩
  · have h1 : numX n (nums t) = 0 := by rw [numX, if_neg (by rw [nums_length]; exact h)]
    have h2 : numC n (nums t) = 12 := by rw [numC, if_neg (by rw [nums_length]; exact h)]
    have k1 := hide1 (first_no t (n : Int) w (by omega))
    have k2 := fun w => hide1 (numberOf_any ⟨#[]⟩ w (by decide))
    rw [nums_empty, val_nil] at k2
    rw [h1, h2]
    clear h1 h2 h
    go_enter Tryz.func77, Tryz.ntmps77
    go_wp2_with (go_at_call 49; refine k1.out.mono ?_; rintro e w1 ⟨rfl, hw1⟩; cases hw1)
    go_quiet ((go_at_call 78; exact Calls.quiet_of_same (k2 _).out))
    go_wp2
    go_ret3
    exact ⟨rfl, nq, rfl⟩

/- a list of at most so many things, of so many bits each: its code, how many, their bytes -/
def cntN (R : List Nat) : Nat := val (R.take 4)
def lstC (most : Int) (tb : Nat) (R : List Nat) : Int :=
  if R.length < 4 then 12 else if most < (cntN R : Int) then 2 else if R.length < 4 + (cntN R * tb + 7) / 8 then 12 else 0
def lstH (tb : Nat) (R : List Nat) : List Nat := (R.drop 4).take ((cntN R * tb + 7) / 8)
theorem cntN_lt {R : List Nat} (h : Lt 256 R) : cntN R < 4294967296 := by
  have h1 := val_lt _ (h.take 4)
  have h2 : (R.take 4).length ≤ 4 := by rw [List.length_take]; omega
  have h3 : (256 : Nat) ^ (R.take 4).length ≤ 256 ^ 4 := Nat.pow_le_pow_right (by omega) h2
  unfold cntN
  omega
theorem lstH_length {most : Int} {tb : Nat} {R : List Nat} (h : lstC most tb R = 0) : (lstH tb R).length = (cntN R * tb + 7) / 8 ∧ 4 + (cntN R * tb + 7) / 8 ≤ R.length ∧ (cntN R : Int) ≤ most := by
  unfold lstC at h
  split at h
  · cases h
  split at h
  · cases h
  split at h
  · cases h
  · refine ⟨?_, by omega, by omega⟩
    unfold lstH
    rw [List.length_take, List.length_drop]
    omega

theorem ret_list {fn : Func} {p u : Tmp} (h : fn.results = #[.cell p 88, .tmp u]) {R : Ending → World → Prop} {a : Act} {w : World} (g : Nat) (x y z : Value) (hp : a.tmps.getD p undef = .pointer (some ⟨g, 0, none⟩))
    (hu : a.tmps.getD u undef = z) (hg : w.heap[g]? = some (.cells #[x, y] 88 (0, 0))) (hd : a.defers = []) (hR : R (.returned (.tuple #[.agg #[x, y], z])) w) : bodyPost Tryz.prog fn R .ret a w := by
  refine bodyPost_ret_by (v := .tuple #[.agg #[x, y], z]) ?_ hd hR
  have hl := run_loadVar_row (P := Tryz.prog) w g 88 88 #[x, y] (0, 0) _ hg Tryz.underlying88 rfl (by kernel_rfl)
  rw [results_cell_tmp h, hp, hu]
  simp [asAddr, hl, Result.andThen]

theorem run_from (s : ByteArray) (p : Nat) (h2 : p ≤ s.size) (w : World) : (Instr.slice 9 (.string s) (some (.int .i64 (p : Int))) none none).run Tryz.prog w = .ok (.string (s.extract p s.size)) w := by
  have := Tryz.underlying9
  go_simp
theorem nums_rest (s : ByteArray) (p : Nat) : nums (s.extract p s.size) = (nums s).drop p := by
  rw [nums_extract, List.take_of_length_le (by rw [nums_length]; omega)]
theorem run_cut4 (s : ByteArray) (w : World) (h2 : 4 ≤ s.size) : (Instr.slice 9 (.string s) (some (.int .i64 4)) none none).run Tryz.prog w = .ok (.string (s.extract 4 s.size)) w := run_from s 4 h2 w
theorem drewN_below {B : Nat} {w w' : World} (h : Below B w w') (q : Nat) : Below B w (w'.drewN q) := ⟨h.1, h.2, h.3, h.4, h.5⟩

/- what counted answers -/
def LPost (most : Int) (tb : Nat) (R : List Nat) (w : World) (e : Ending) (w' : World) : Prop :=
  (lstC most tb R = 0 → e = .returned (.tuple #[.agg #[.int .i64 (cntN R : Nat), .string (txt (lstH tb R))], .int .i64 0])) ∧
  (lstC most tb R ≠ 0 → e = .returned (.tuple #[.agg #[.int .i64 0, .string ⟨#[]⟩], .int .i64 (lstC most tb R)])) ∧ Below w.heap.size w w'

set_option maxHeartbeats 2000000 in
theorem counted_any (most : Int) (tb : Nat) (t : ByteArray) (w : World) (hm : most ≤ 524288) (htb : tb ≤ 64) (ht : t.size ≤ 281474976710656) :
    Calls Tryz.prog 45 #[.string t, .int .i64 most, .int .i64 (tb : Int)] w (LPost most tb (nums t) w) := by
  have mx := mixed
  by_cases h4 : t.size < 4
  · have hc : lstC most tb (nums t) = 12 := by rw [lstC, if_pos (by rw [nums_length]; exact h4)]
    have HE : Hid (∀ e w', e = .returned (.tuple #[.agg #[.int .i64 0, .string ⟨#[]⟩], .int .i64 12]) → Below w.heap.size w w' → LPost most tb (nums t) w e w') := fun e w' h1 h2 => ⟨fun h => (by rw [hc] at h; cases h), fun _ => (by rw [hc]; exact h1), h2⟩
    have k1 := fun w => hide1 (first_no t 4 w (by omega))
    clear hc
    generalize LPost most tb (nums t) w = PP at *
    go_enter Tryz.func45, Tryz.ntmps45
    go_wp2_with (go_at_call 49; refine (k1 _).out.mono ?_; rintro e w1 ⟨rfl, hw1⟩; cases hw1)
    exact ret_list Tryz.results45 w.heap.size _ _ _ rfl rfl (heap_alloc_new _ _) rfl (HE.out _ _ rfl ((Below.refl _ _).alloc (Nat.le_refl _) _))
  have e4 : nums (t.extract 0 4) = (nums t).take 4 := by rw [nums_extract]; rfl
  have k1 := fun w => hide1 (first_yes t 4 w (by omega))
  have k2 := fun w => hide1 (numberOf_any (t.extract 0 4) w (by rw [size_nums, e4, List.length_take]; omega))
  rw [e4] at k2
  have hN := cntN_lt (nums_all t)
  have hlt : ¬ (nums t).length < 4 := by rw [nums_length]; exact h4
  have ecn : val ((nums t).take 4) = cntN (nums t) := rfl
  rw [ecn] at k2
  generalize t.extract 0 4 = t1 at *
  obtain ⟨N, hNn⟩ : ∃ N, cntN (nums t) = N := ⟨_, rfl⟩
  rw [hNn] at k2 hN
  have ewN : IntKind.i64.wrap (N : Int) = (N : Int) := by rw [IntKind.wrap_i64]; omega
  by_cases h5 : most < (N : Int)
  · have hc : lstC most tb (nums t) = 2 := by rw [lstC, if_neg hlt, hNn, if_pos h5]
    have HE : Hid (∀ e w', e = .returned (.tuple #[.agg #[.int .i64 0, .string ⟨#[]⟩], .int .i64 2]) → Below w.heap.size w w' → LPost most tb (nums t) w e w') := fun e w' h1 h2 => ⟨fun h => (by rw [hc] at h; cases h), fun _ => (by rw [hc]; exact h1), h2⟩
    clear hc hNn ecn e4 hlt
    generalize LPost most tb (nums t) w = PP at *
    go_enter Tryz.func45, Tryz.ntmps45
    go_wp2_with (first | (go_at_call 49; refine (k1 _).out.mono ?_; rintro e w1 ⟨rfl, hw1⟩; cases hw1) | (go_at_call 78; refine (k2 _).out.mono ?_; rintro e w1 ⟨rfl, hw1⟩; cases hw1))
    exact ret_list Tryz.results45 w.heap.size _ _ _ rfl rfl (heap_alloc_new _ _) rfl (HE.out _ _ rfl ((Below.refl _ _).alloc (Nat.le_refl _) _))
  have hNm : N ≤ 524288 := by omega
  obtain ⟨P, hP⟩ : ∃ P, P = N * tb := ⟨_, rfl⟩
  have hPb : P ≤ 33554432 := by rw [hP]; exact Nat.le_trans (Nat.mul_le_mul hNm htb) (by decide)
  have eP : (N : Int) * (tb : Int) = (P : Int) := by rw [hP, Int.natCast_mul]
  have eP2 : IntKind.i64.wrap (P : Int) = (P : Int) := by rw [IntKind.wrap_i64]; omega
  have k3 := fun w => hide1 (bytesFor_any P w hPb)
  obtain ⟨Z, hZ⟩ : ∃ Z, Z = (P + 7) / 8 := ⟨_, rfl⟩
  rw [← hZ] at k3
  have hcut := fun w => run_cut4 t w (by omega)
  have h5' : decide (most < (N : Int)) = false := by rw [decide_eq_false_iff_not]; exact h5
  have er : nums (t.extract 4 t.size) = (nums t).drop 4 := by rw [nums_extract, List.take_of_length_le (by rw [nums_length]; omega)]
  have hrs : (t.extract 4 t.size).size = t.size - 4 := by rw [size_nums, er, List.length_drop, nums_length]
  generalize t.extract 4 t.size = rest at *
  by_cases h6 : t.size < 4 + Z
  · have hc : lstC most tb (nums t) = 12 := by rw [lstC, if_neg hlt, hNn, if_neg h5, if_pos (by rw [nums_length, ← hP, ← hZ]; exact h6)]
    have HE : Hid (∀ e w', e = .returned (.tuple #[.agg #[.int .i64 0, .string ⟨#[]⟩], .int .i64 12]) → Below w.heap.size w w' → LPost most tb (nums t) w e w') := fun e w' h1 h2 => ⟨fun h => (by rw [hc] at h; cases h), fun _ => (by rw [hc]; exact h1), h2⟩
    have k4 := fun w => hide1 (first_no rest (Z : Int) w (by omega))
    clear hc hNn ecn e4 hlt hP hZ er h5
    generalize LPost most tb (nums t) w = PP at *
    go_enter Tryz.func45, Tryz.ntmps45
    go_upto_region 7 with (first | (go_at_call 49; refine (k1 _).out.mono ?_; rintro e w1 ⟨rfl, hw1⟩; cases hw1) | (go_at_call 78; refine (k2 _).out.mono ?_; rintro e w1 ⟨rfl, hw1⟩; cases hw1))
    go_quiet ((first | (go_at_call 53; exact Calls.quiet_of_same (k3 _).out) | (go_at_call 49; exact Calls.quiet_of_same (k4 _).out)))
    go_wp2
    exact ret_list Tryz.results45 w.heap.size _ _ _ rfl rfl (set_box2 (w := World.drewN (w.alloc _) _) (heap_alloc_new _ _)) rfl (HE.out _ _ rfl (((drewN_below ((Below.refl _ _).alloc (Nat.le_refl _) _) _).setCell (Nat.le_refl _) _).setCell (Nat.le_refl _) _))
  · have hc : lstC most tb (nums t) = 0 := by rw [lstC, if_neg hlt, hNn, if_neg h5, if_neg (by rw [nums_length, ← hP, ← hZ]; exact h6)]
    have k4 := fun w => hide1 (first_yes rest Z w (by omega))
    have et : rest.extract 0 Z = txt (lstH tb (nums t)) := by
      apply nums_inj
      rw [nums_extract, er, List.drop_zero, lstH, hNn, ← hP, ← hZ, nums_txt (((nums_all t).drop 4).take _)]
    have HE : Hid (∀ e w', e = .returned (.tuple #[.agg #[.int .i64 (N : Int), .string (rest.extract 0 Z)], .int .i64 0]) → Below w.heap.size w w' → LPost most tb (nums t) w e w') := fun e w' h1 h2 => ⟨fun _ => (by rw [hNn, ← et]; exact h1), fun h => absurd hc h, h2⟩
    clear hc hNn ecn e4 hlt hP hZ er h5 et
    generalize rest.extract 0 Z = t2 at *
    generalize LPost most tb (nums t) w = PP at *
    go_enter Tryz.func45, Tryz.ntmps45
    go_upto_region 7 with (first | (go_at_call 49; refine (k1 _).out.mono ?_; rintro e w1 ⟨rfl, hw1⟩; cases hw1) | (go_at_call 78; refine (k2 _).out.mono ?_; rintro e w1 ⟨rfl, hw1⟩; cases hw1))
    go_quiet ((first | (go_at_call 53; exact Calls.quiet_of_same (k3 _).out) | (go_at_call 49; exact Calls.quiet_of_same (k4 _).out)))
    go_wp2
    exact ret_list Tryz.results45 w.heap.size _ _ _ rfl rfl (set_box2 (w := World.drewN (w.alloc _) _) (heap_alloc_new _ _)) rfl (HE.out _ _ rfl (((drewN_below ((Below.refl _ _).alloc (Nat.le_refl _) _) _).setCell (Nat.le_refl _) _).setCell (Nat.le_refl _) _))
end Go.Proofs.YtmmhfipdolbinaaGreatDoor
