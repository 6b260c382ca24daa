/- May a width, a row's length, numbers be; rows added up. -/
import Derived.Test.YtgcbdjmlhjbacaaJ17
namespace Go.Proofs.Ytgcbdjmlhjbacaa.Gi
open Go.RowKit Ri
open Go.Proofs.Ytgcbdjmlhjbacaa.St (region_f take_f take_p skip_p ready_f ready2_f done_f)
set_option maxRecDepth 100000
attribute [local go_sem] Ri.not_any Ri.mf_any

def okW (W : Int) : Bool := decide (1 ≤ W ∧ W ≤ 64)
def okN (n : Int) : Bool := decide (1 ≤ n ∧ n ≤ 6)
theorem okW_nat {W : Int} (h : okW W = true) : ∃ L : Nat, W = L ∧ 1 ≤ L ∧ L ≤ 64 := good_nat (of_decide_eq_true h)
theorem okN_nat {n : Int} (h : okN n = true) : ∃ m : Nat, n = m ∧ 1 ≤ m ∧ m ≤ 6 := by
  have := of_decide_eq_true h
  exact ⟨n.toNat, by omega, by omega, by omega⟩
theorem okW_of {L : Nat} (h1 : 1 ≤ L) (h2 : L ≤ 64) : okW (L : Int) = true := decide_eq_true (by omega)
theorem okN_of {n : Nat} (h1 : 1 ≤ n) (h2 : n ≤ 6) : okN (n : Int) = true := decide_eq_true (by omega)

theorem width_any (W : Int) (w : World) : Calls Try.prog 34 #[.int .i64 W] w fun e w' => e = .returned (.bool (okW W)) ∧ w' = w := by
  go_enter Try.func34, Try.ntmps34
  go_wp2
  all_goals go_ret
  · exact ⟨by simp [okW, *], rfl⟩
  · refine ⟨?_, rfl⟩
    have : ¬ 1 ≤ W := by omega
    simp [okW, this]
theorem side_any (W : Int) (w : World) : Calls Try.prog 30 #[.int .i64 W] w fun e w' => e = .returned (.bool (okN W)) ∧ w' = w := by
  go_enter Try.func30, Try.ntmps30
  go_wp2
  all_goals go_ret
  · exact ⟨by simp [okN, *], rfl⟩
  · refine ⟨?_, rfl⟩
    have : ¬ 1 ≤ W := by omega
    simp [okN, this]
def bad (W n : Int) : Bool := !(okW W && okN n)
theorem bad_yes {W n : Int} (h : W < 1 ∨ 64 < W ∨ n < 1 ∨ 6 < n) : bad W n = true := by
  unfold bad okW okN
  simp
  omega
theorem bad_no {W n : Int} (h : bad W n = false) : okW W = true ∧ okN n = true := by
  unfold bad at h
  simpa using h
theorem wrong_any (W n : Int) (w : World) : Calls Try.prog 18 #[.int .i64 W, .int .i64 n] w fun e w' => e = .returned (.bool (bad W n)) ∧ w' = w := by
  by_cases h1 : W < 1
  · rw [bad_yes (.inl h1)]
    go_enter Try.func18, Try.ntmps18
    go_wp2
    go_ret
    exact ⟨rfl, rfl⟩
  · by_cases h2 : 64 < W
    · rw [bad_yes (.inr (.inl h2))]
      go_enter Try.func18, Try.ntmps18
      go_wp2
      go_ret
      exact ⟨rfl, rfl⟩
    · by_cases h3 : n < 1
      · rw [bad_yes (.inr (.inr (.inl h3)))]
        go_enter Try.func18, Try.ntmps18
        go_wp2
        go_ret
        exact ⟨rfl, rfl⟩
      · by_cases h4 : 6 < n
        · rw [bad_yes (.inr (.inr (.inr h4)))]
          go_enter Try.func18, Try.ntmps18
          go_wp2
          go_ret
          exact ⟨rfl, rfl⟩
        · have hb : bad W n = false := by
            unfold bad okW okN
            simp
            omega
          rw [hb]
          go_enter Try.func18, Try.ntmps18
          go_wp2
          go_ret
          exact ⟨rfl, rfl⟩

set_option maxHeartbeats 1000000 in
theorem are_any (W : Int) (w : World) (m c : Nat) (a : Option Addr) (l : List Nat) (ha : Nl w m a l) (hs : Small l) (hm : m ≤ 4194304) :
    Calls Try.prog 25 #[.int .i64 W, .slice a m c] w fun e w' => e = .returned (.bool (okW W && fitsAll W l)) ∧ ∃ q, w' = w.drewN q := by
  have kW := fun w => hide1 (width_any W w)
  have kF := hide1 (fits_any W w m c a l ha hs hm)
  clear ha hs
  cases h : okW W with
  | false =>
    rw [h] at kW
    go_enter Try.func25, Try.ntmps25
    go_wp2_with (first | (go_at_call 34; refine (kW _).out.mono ?_; rintro e w' ⟨rfl, he0⟩; obtain rfl := he0.symm))
    go_ret
    exact ⟨rfl, 0, rfl⟩
  | true =>
    rw [h] at kW
    rw [Bool.true_and]
    go_enter Try.func25, Try.ntmps25
    go_wp2_with (first | (go_at_call 34; refine (kW _).out.mono ?_; rintro e w' ⟨rfl, he0⟩; obtain rfl := he0.symm) | (go_at_call 38; refine kF.out.mono ?_; rintro e w' ⟨rfl, q, rfl⟩))
    go_ret
    exact ⟨rfl, q, rfl⟩

/- what is added at a place of a row -/
def colF (n i : Nat) (l : List Nat) (j : Nat) : Nat := if j % n = i then at0 l j else 0
def colL (L n : Nat) (l : List Nat) (k : Nat) : List Nat := tl (fun i => sumTo (colF n i l) k % 2 ^ L) n
theorem colL_zero (L n : Nat) (l : List Nat) : colL L n l 0 = List.replicate n 0 := by
  apply List.ext_getElem?
  intro j
  by_cases h : j < n
  · rw [colL, tl_get h, List.getElem?_replicate, if_pos h, sumTo, Nat.zero_mod]
  · rw [List.getElem?_eq_none (by rw [colL, tl_length]; omega), List.getElem?_eq_none (by rw [List.length_replicate]; omega)]
theorem colL_get {L n k i : Nat} (l : List Nat) (h : i < n) : (colL L n l k)[i]? = some (sumTo (colF n i l) k % 2 ^ L) := tl_get h
theorem colL_succ {L n k : Nat} (l : List Nat) (_h : 1 ≤ n) : colL L n l (k + 1) = (colL L n l k).set (k % n) ((sumTo (colF n (k % n) l) k % 2 ^ L + at0 l k) % 2 ^ L) := by
  apply List.ext_getElem?
  intro j
  by_cases hj : j < n
  · rw [colL_get l hj, List.getElem?_set, colL, tl_length]
    by_cases hk : k % n = j
    · subst hk
      rw [if_pos rfl, if_pos hj, sumTo, colF, if_pos rfl, Nat.mod_add_mod]
    · rw [if_neg hk, tl_get hj, sumTo, show colF n j l k = 0 from if_neg hk, Nat.add_zero]
  · rw [List.getElem?_eq_none (by rw [colL, tl_length]; omega), List.getElem?_eq_none (by rw [List.length_set, colL, tl_length]; omega)]

set_option maxHeartbeats 4000000 in
theorem sum_any (L n : Nat) (w : World) (m c : Nat) (a : Option Addr) (l : List Nat) (h1 : 1 ≤ L) (h2 : L ≤ 64) (h3 : 1 ≤ n) (h4 : n ≤ 6) (ha : Nl w m a l) (hm : m ≤ 4194304) :
    Calls Try.prog 33 #[.int .i64 (L : Int), .int .i64 (n : Int), .slice a m c] w fun e w' => e = .returned (.slice (some ⟨w.heap.size, 0, none⟩) n n) ∧ w'.heap[w.heap.size]? = some (wrow (colL L n l m)) ∧ Below w.heap.size w w' := by
  have mixed := St.mixed
  have HA := hide1 ha
  have hmk := make_words n (by omega)
  have kA0 : Hid (∀ (x y : Nat) W, Calls Try.prog 44 #[.int .i64 (L : Int), .int .u64 (x : Int), .int .u64 (y : Int)] W fun e w' => e = .returned (.int .u64 (((x + y) % 2 ^ L : Nat) : Int)) ∧ w' = W) := fun x y W => by
    have h := add_any (L : Int) x y W
    rw [fit_nat h1 h2] at h
    exact h
  have HS := Shy.mk fun k => colL_succ (L := L) (k := k) l h3
  have hz := colL_zero L n l
  clear ha
  go_enter Try.func33, Try.ntmps33
  go_wp2
  clear hmk
  go_loopw [14] (fun i wr => ∃ k : Nat, k ≤ m ∧ i = .int .i64 k ∧ wr.heap[w.heap.size]? = some (wrow (colL L n l k)) ∧ Below w.heap.size w wr) (fun i _ => m - (intOf i).toNat)
  case atStart =>
    refine ⟨0, Nat.zero_le _, rfl, ?_, below1 _⟩
    rw [hz]
    exact heap_alloc_new _ _
  case round =>
    obtain ⟨k, hk, rfl, hr, hB⟩ := hrel
    by_cases hlt : k < m
    · obtain ⟨g, o, rfl, hc⟩ := (HA.out.below hB (Nat.le_refl _)).val hlt
      obtain ⟨i, hi⟩ : ∃ i, i = k % n := ⟨_, rfl⟩
      have hin : i < n := by rw [hi]; exact Nat.mod_lt _ h3
      have hy := colL_get (L := L) (k := k) l hin
      have hst := HS.out k
      rw [← hi] at hst
      obtain ⟨x, hx⟩ : ∃ x, x = at0 l k := ⟨_, rfl⟩
      obtain ⟨y, hy0⟩ : ∃ y, y = sumTo (colF n i l) k % 2 ^ L := ⟨_, rfl⟩
      rw [← hx] at hc hst
      rw [← hy0] at hy hst
      obtain ⟨z, hz0⟩ : ∃ z, z = (y + x) % 2 ^ L := ⟨_, rfl⟩
      have kA := fun W => hide1 (kA0.out y x W)
      rw [← hz0] at kA hst
      have em : (k : Int).tmod (n : Int) = (i : Int) := by rw [hi]; rfl
      have hn0 : (n : Int) ≠ 0 := by omega
      have hn1 : ¬ n = 0 := by omega
      have hi0 : (0 : Int) ≤ (i : Int) := by omega
      have hiI : (i : Int) < (n : Int) := by omega
      have HST := hide1 hst
      generalize colL L n l k = ws at *
      have HR := hide1 hr
      have HB := hide1 hB
      have HY := hide1 hy
      obtain ⟨gw, hgw⟩ : ∃ g, g = w.heap.size := ⟨_, rfl⟩
      rw [← hgw] at HR HB ⊢
      clear hr hB hi hx hy0 hz0 hst hy hgw hz
      go_upto_region 5 with (fail)
      refine region_f (F := [14]) (S := fun W => W.heap[gw]? = some (wrow ws) ∧ Below gw w W) (by kernel_rfl) ⟨HR.out, below_drewN HB.out 1⟩ (fun hS => ?_)
      refine take_p 0 19 (.slice (some ⟨gw, 0, none⟩) n n) rfl rfl (by kernel_rfl) (by kernel_rfl) (by kernel_rfl) (fun _ _ _ h => h) rfl (fun w => by go_simp) ?_
      try simp only [List.setIfInBounds_toArray, List.set_cons_zero, List.set_cons_succ]
      refine take_p 1 20 (.int .i64 (k : Int)) rfl rfl (by kernel_rfl) (by kernel_rfl) (by kernel_rfl) (fun _ _ _ h => h) rfl (fun w => by go_simp) ?_
      try simp only [List.setIfInBounds_toArray, List.set_cons_zero, List.set_cons_succ]
      refine take_p 2 21 (.int .i64 (n : Int)) rfl rfl (by kernel_rfl) (by kernel_rfl) (by kernel_rfl) (fun _ _ _ h => h) rfl (fun w => by go_simp) ?_
      try simp only [List.setIfInBounds_toArray, List.set_cons_zero, List.set_cons_succ]
      refine take_p 3 22 (.int .i64 (i : Int)) rfl rfl (by kernel_rfl) (by kernel_rfl) (by kernel_rfl) (fun _ _ _ h => h) rfl (fun w => by go_simp) ?_
      try simp only [List.setIfInBounds_toArray, List.set_cons_zero, List.set_cons_succ]
      refine take_p 4 23 (.int .i64 (L : Int)) rfl rfl (by kernel_rfl) (by kernel_rfl) (by kernel_rfl) (fun _ _ _ h => h) rfl (fun w => by go_simp) ?_
      try simp only [List.setIfInBounds_toArray, List.set_cons_zero, List.set_cons_succ]
      refine take_p 5 24 (.slice (some ⟨gw, 0, none⟩) n n) rfl rfl (by kernel_rfl) (by kernel_rfl) (by kernel_rfl) (fun _ _ _ h => h) rfl (fun w => by go_simp) ?_
      try simp only [List.setIfInBounds_toArray, List.set_cons_zero, List.set_cons_succ]
      refine take_p 6 25 (.int .i64 (k : Int)) rfl rfl (by kernel_rfl) (by kernel_rfl) (by kernel_rfl) (fun _ _ _ h => h) rfl (fun w => by go_simp) ?_
      try simp only [List.setIfInBounds_toArray, List.set_cons_zero, List.set_cons_succ]
      refine take_p 7 26 (.int .i64 (n : Int)) rfl rfl (by kernel_rfl) (by kernel_rfl) (by kernel_rfl) (fun _ _ _ h => h) rfl (fun w => by go_simp) ?_
      try simp only [List.setIfInBounds_toArray, List.set_cons_zero, List.set_cons_succ]
      refine take_p 8 27 (.int .i64 (i : Int)) rfl rfl (by kernel_rfl) (by kernel_rfl) (by kernel_rfl) (fun _ _ _ h => h) rfl (fun w => by go_simp) ?_
      try simp only [List.setIfInBounds_toArray, List.set_cons_zero, List.set_cons_succ]
      refine take_p 9 28 (.pointer (some ⟨gw, i, none⟩)) rfl rfl (by kernel_rfl) (by kernel_rfl) (by kernel_rfl) (fun _ _ _ h => h) rfl (fun w => by go_simp) ?_
      try simp only [List.setIfInBounds_toArray, List.set_cons_zero, List.set_cons_succ]
      refine take_f 10 29 (.int .u64 (y : Int)) [12, 13, 14] rfl rfl (by kernel_rfl) (by kernel_rfl) (by kernel_rfl) (by kernel_rfl) (by kernel_rfl) (by kernel_rfl) (fun _ _ _ h => h) rfl (fun w hSw => by have h1 := row_cell hSw.1 HY.out; go_simp) hS ?_
      try simp only [List.setIfInBounds_toArray, List.set_cons_zero, List.set_cons_succ]
      refine take_p 11 30 (.int .u64 (x : Int)) rfl rfl (by kernel_rfl) (by kernel_rfl) (by kernel_rfl) (fun _ _ _ h => h) rfl (fun w => by go_simp) ?_
      try simp only [List.setIfInBounds_toArray, List.set_cons_zero, List.set_cons_succ]
      refine ready_f 12 (o := { dst := some 31, op := Op.call { callee := Callee.value (Operand.func 44), args := #[Operand.tmp 23, Operand.tmp 29, Operand.tmp 30], argTypes := #[3, 44, 44] }, type := 44, pos := "gilboa.go:81", after := #[{ on := 4, ground := Ground.data }, { on := 10, ground := Ground.data }, { on := 11, ground := Ground.data }], guard := none }) (by kernel_rfl) rfl (fun K hK => ?_)
      go_simp
      refine (kA _).out.mono ?_
      rintro e w' ⟨rfl, he0⟩
      obtain rfl := he0.symm
      refine hK.out _ _ (fun _ h => h) ?_
      clear hK K
      try simp only [Act.put, List.setIfInBounds_toArray, List.set_cons_zero, List.set_cons_succ]
      refine take_p 13 32 (.pointer (some ⟨gw, i, none⟩)) rfl rfl (by kernel_rfl) (by kernel_rfl) (by kernel_rfl) (fun _ _ _ h => h) rfl (fun w => by go_simp) ?_
      try simp only [List.setIfInBounds_toArray, List.set_cons_zero, List.set_cons_succ]
      have hf1 := frozen_of_row _ gw i _ _ hS.1
      have hc1 := row_cell hS.1 HY.out
      refine ready_f 14 (o := { dst := none, op := Op.store 44 (Operand.tmp 32) (Operand.tmp 31), type := 0, pos := "gilboa.go:81", after := #[{ on := 13, ground := Ground.data }, { on := 12, ground := Ground.data }, { on := 12, ground := Ground.chain }, { on := 0, ground := Ground.phase }, { on := 1, ground := Ground.phase }, { on := 2, ground := Ground.phase }, { on := 3, ground := Ground.phase }, { on := 4, ground := Ground.phase }, { on := 5, ground := Ground.phase }, { on := 6, ground := Ground.phase }, { on := 7, ground := Ground.phase }, { on := 8, ground := Ground.phase }, { on := 9, ground := Ground.phase }, { on := 10, ground := Ground.phase }, { on := 11, ground := Ground.phase }, { on := 12, ground := Ground.phase }], guard := none }) (by kernel_rfl) rfl (fun K hK => ?_)
      go_simp
      refine hK.out _ _ (fun h => absurd (by decide) h) ?_
      clear hK K
      refine done_f (by kernel_rfl) ?_ _
      go_wp2
      go_roundw
      case rel =>
        refine ⟨k + 1, by omega, by go_num, ?_, ?_⟩
        · rw [HST.out]
          exact wset hS.1
        · exact hS.2.setCell (Nat.le_refl _) _
      case measure => simp [intOf]; omega
    · have : k = m := by omega
      subst this
      go_wp2
      go_ret
      exact ⟨rfl, hr, hB⟩
end Go.Proofs.Ytgcbdjmlhjbacaa.Gi
