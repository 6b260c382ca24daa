/- The document's Spread; what is wrong, of both. -/
import Derived.Test.YtgcbdjmlhjbacaaJ21
namespace Go.Proofs.Ytgcbdjmlhjbacaa.Gi
open Go.RowKit Ri
set_option maxRecDepth 100000
attribute [local go_sem] Ri.not_any Ri.mf_any

theorem grow_below {w W X w' : World} {v : Value} {A : List Nat} (hB : Below w.heap.size w W) (hX : Below W.heap.size W X) (h : Wo w.heap.size W v A) (hg : X.grownBy w' v.ownBlock) : Below w.heap.size w w' :=
  (hB.trans (hX.mono hB.size)).grown hg (Nat.le_trans hB.size hX.size) (fun _ hk => (h.lt hk).1)
theorem new_word (w : World) (x : Nat) : Nl (w.alloc (.cells #[.int .u64 (x : Int)] 44)) 1 (some ⟨w.heap.size, 0, none⟩) [x] := one_Wo (heap_alloc_new _ _)
theorem small_at {l : List Nat} (h : Small l) (k : Nat) : at0 l k < 18446744073709551616 := h.at0 k
theorem place_lt {j m i n : Nat} (hj : j < m) (hi : i < n) : j * n + i < m * n := by
  have h : (j + 1) * n ≤ m * n := Nat.mul_le_mul_right n hj
  rw [Nat.succ_mul] at h
  omega
theorem place_le {j m i n : Nat} (hj : j < m) (hi : i ≤ n) : j * n + i ≤ m * n := by
  have h : (j + 1) * n ≤ m * n := Nat.mul_le_mul_right n hj
  rw [Nat.succ_mul] at h
  omega

set_option maxHeartbeats 8000000 in
theorem rspread_good (L n q m c : Nat) (a : Option Addr) (l : List Nat) (w : World) (h1 : 1 ≤ L) (h2 : L ≤ 64) (h3 : 1 ≤ n) (h4 : n ≤ 6) (hm : m = q * n) (hmx : m ≤ 4096) (ha : Nl w m a l) (hs : Small l) (hf : fitsAll (L : Int) l = true) :
    Calls Try.prog 12 #[.int .i64 (L : Int), .int .i64 (n : Int), .slice a m c] w fun e w' => ∃ a1 c1, e = .returned (.tuple #[.slice a1 (q * (L * n)) c1, .int .i64 0]) ∧ Nl w' (q * (L * n)) a1 (tl (spF L n l) (q * (L * n))) ∧ Below w.heap.size w w' := by
  have HA := hide1 ha
  have HS := hide1 hs
  have kW := fun w => hide1 (wrong_any (L : Int) (n : Int) w)
  rw [show bad (L : Int) (n : Int) = false by unfold bad; rw [okW_of h1 h2, okN_of h3 h4]; rfl] at kW
  have kF := fun w ha => hide1 (rfits_any L w m c a l ha hs (by omega) h1 h2)
  rw [hf] at kF
  have kI : Hid (∀ x : Nat, x < 18446744073709551616 → ∀ W, Calls Try.prog 19 #[.int .i64 (L : Int), .int .u64 (x : Int)] W fun e w' => e = .returned (.int .u64 ((x % 2 ^ L : Nat) : Int)) ∧ w' = W) := fun x hx W => rfit_any L x W h1 h2 hx
  have em : (m : Int).tmod (n : Int) = 0 := by rw [hm]; exact (congrArg (Nat.cast (R := Int)) (Nat.mul_mod_left q n))
  have eq : (m : Int).tdiv (n : Int) = (q : Int) := by rw [hm]; exact (congrArg (Nat.cast (R := Int)) (Nat.mul_div_left q h3))
  have hn0 : (n : Int) ≠ 0 := by omega
  have hn1 : ¬ n = 0 := by omega
  have hqm : q ≤ 4096 := by
    have : q * 1 ≤ q * n := Nat.mul_le_mul_left q h3
    omega
  have HM := hide1 hm
  have H2 := hide1 h2
  obtain ⟨F, hF⟩ : ∃ F, F = spF L n l := ⟨_, rfl⟩
  have HF : Shy (∀ i k j, k < L → j < n → F ((i * L + k) * n + j) = at0 l (i * n + j) * 2 ^ k % 2 ^ L) := ⟨fun i k j hk hj => by rw [hF, spF, place_div hj, place_mod hj, place_div hk, place_mod hk]⟩
  have hS : q * (L * n) ≤ 4096 * (64 * 6) := Nat.mul_le_mul hqm (Nat.mul_le_mul h2 h4)
  rw [← hF]
  clear hm hs hF hf h1
  go_enter Try.func12, Try.ntmps12
  go_wp2_with fail
  go_at_call 18
  refine (kW _).out.mono ?_
  rintro e w0 ⟨rfl, he0⟩
  obtain rfl := he0.symm
  go_wp2_with fail
  go_at_call 29
  refine (kF _ ha).out.mono ?_
  rintro e w0 ⟨rfl, q0, hq0⟩
  have B0 : Hid (Below w.heap.size w w0) := by rw [hq0]; exact below_drewN (Below.refl _ _) q0
  clear hq0 ha kW kF
  go_wp2
  go_loopw [8, 9] (fun v8 v9 wr => ∃ i p : Nat, i ≤ q ∧ p = i * (L * n) ∧ v9 = .int .i64 i ∧ Wo w.heap.size wr v8 (tl F p) ∧ Below w.heap.size w wr) (fun _ v9 _ => q - (intOf v9).toNat)
  case atStart => exact ⟨0, 0, Nat.zero_le _, (Nat.zero_mul _).symm, rfl, Wo.nil _ _, B0.out⟩
  case round =>
    obtain ⟨i, p, hi, hp, rfl, ho, hbe⟩ := hrel
    obtain ⟨la, lc, rfl⟩ := ho.form
    by_cases hil : i < q
    · have HO := hide1 ho
      have HE := hide1 hbe
      have HP := hide1 hp
      have hiq : (i : Int) < (q : Int) := by omega
      clear ho hbe hp
      go_wp2
      go_loopw [8, 10] (fun v8 v10 wr => ∃ k p : Nat, k ≤ L ∧ p = (i * L + k) * n ∧ v10 = .int .i64 k ∧ Wo w.heap.size wr v8 (tl F p) ∧ Below w.heap.size w wr) (fun _ v10 _ => L - (intOf v10).toNat)
      case atStart => exact ⟨0, p, Nat.zero_le _, by rw [HP.out, Nat.add_zero, Nat.mul_assoc], rfl, HO.out, HE.out⟩
      case round =>
        clear HO HE HP
        obtain ⟨k, p, hk, hp, rfl, ho, hbe⟩ := hrel
        obtain ⟨la, lc, rfl⟩ := ho.form
        by_cases hkl : k < L
        · have HO := hide1 ho
          have HE := hide1 hbe
          have HP := hide1 hp
          clear ho hbe hp
          go_wp2
          go_loopw [8, 11] (fun v8 v11 wr => ∃ j p : Nat, j ≤ n ∧ p = (i * L + k) * n + j ∧ v11 = .int .i64 j ∧ Wo w.heap.size wr v8 (tl F p) ∧ Below w.heap.size w wr) (fun _ v11 _ => n - (intOf v11).toNat)
          case atStart => exact ⟨0, p, Nat.zero_le _, HP.out, rfl, HO.out, HE.out⟩
          case round =>
            clear HO HE HP
            obtain ⟨j, p, hj, hp, rfl, ho, hbe⟩ := hrel
            obtain ⟨la, lc, rfl⟩ := ho.form
            rw [tl_length] at ho
            rw [tl_length]
            by_cases hjl : j < n
            · obtain ⟨r, hr⟩ : ∃ r, r = i * n := ⟨_, rfl⟩
              obtain ⟨z, hz⟩ : ∃ z, z = r + j := ⟨_, rfl⟩
              have hzm : z < m := by rw [hz, hr, HM.out]; exact place_lt hil hjl
              have e1 : IntKind.i64.wrap ((i : Int) * (n : Int)) = (r : Int) := by rw [← Int.natCast_mul, ← hr, wrap_i64_nat (by omega)]
              have e2 : IntKind.i64.wrap ((r : Int) + (j : Int)) = (z : Int) := by rw [← Int.natCast_add, ← hz, wrap_i64_nat (by omega)]
              obtain ⟨g, o, rfl, hc⟩ := (HA.out.below hbe (Nat.le_refl _)).val hzm
              have hv := HF.out i k j hkl hjl
              rw [← hp, ← hr, ← hz] at hv
              have hx := small_at HS.out z
              obtain ⟨x, hx0⟩ : ∃ x, x = at0 l z := ⟨_, rfl⟩
              rw [← hx0] at hc hv hx
              have e3 : IntKind.u64.wrap ((x : Int) * 2 ^ k) = ((x * 2 ^ k % 18446744073709551616 : Nat) : Int) := by rw [pow_int, ← Int.natCast_mul, wrap_nat]
              obtain ⟨y, hy⟩ : ∃ y, y = x * 2 ^ k % 18446744073709551616 := ⟨_, rfl⟩
              have kI1 := fun W => hide1 (kI.out y (by rw [hy]; exact Nat.mod_lt _ (by decide)) W)
              rw [hy, cut_64 H2.out, ← hv, ← hy] at kI1
              rw [← hy] at e3
              have hpm : p + 1 ≤ 4194304 := by
                have t1 : (i * L + k) * n + j ≤ q * L * n := place_le (place_lt hil hkl) hj
                rw [← hp, Nat.mul_assoc] at t1
                omega
              obtain ⟨v, hv0⟩ : ∃ v, v = F p := ⟨_, rfl⟩
              rw [← hv0] at kI1
              have HV := hide1 hv0
              have HO := hide1 ho
              have HE := hide1 hbe
              have HP := hide1 hp
              have hzs : (z : Int) < (m : Int) := by omega
              have hz0 : (0 : Int) ≤ (z : Int) := by omega
              clear ho hbe hp hv hx hx0 hy hv0 hr hz hzm
              go_wp2_with (first
                | (go_at_call 19; refine (kI1 _).out.mono ?_; rintro e w' ⟨rfl, he9⟩; obtain rfl := he9.symm; clear he9)
                | (at_builtin; go_must (refine wpList_append_Wo rfl _ _ rfl (c := 1) (A := tl F p) (B := w.heap.size) rfl rfl (HO.out.below (below1 _)) (new_word _ _) (by rw [tl_length]; omega) (by have := HE.out.size; rw [World.size_alloc]; omega) ?_); intro a' c' w8 ro8 gr8 wh8; have HX8 : Hid (Wo w.heap.size w8 (.slice a' ((tl F p).length + 1) c') (tl F p ++ [v]) ∧ Below w.heap.size w w8) := ⟨ro8, grow_below HE.out (below1 _) HO.out gr8⟩; clear ro8 gr8 wh8; rw [tl_length] at HX8; rw [tl_length])
                | fail)
              rw [HV.out, ← tl_succ] at HX8
              go_roundw
              case rel => exact ⟨j + 1, p + 1, hjl, by rw [HP.out]; rfl, by go_num, HX8.out.1, HX8.out.2⟩
              case measure => simp [intOf]; omega
            · obtain rfl : j = n := by omega
              have HO := hide1 ho
              have HE := hide1 hbe
              have HP := hide1 hp
              clear ho hbe hp
              go_wp2
              go_roundw
              case rel => exact ⟨k + 1, p, hkl, by rw [HP.out, ← Nat.succ_mul]; rfl, by go_num, HO.out, HE.out⟩
              case measure => simp [intOf]; omega
        · obtain rfl : k = L := by omega
          have HO := hide1 ho
          have HE := hide1 hbe
          have HP := hide1 hp
          clear ho hbe hp
          go_wp2
          go_roundw
          case rel => exact ⟨i + 1, p, hil, by rw [HP.out, ← Nat.mul_assoc, Nat.succ_mul], by go_num, HO.out, HE.out⟩
          case measure => simp [intOf]; omega
    · obtain rfl : i = q := by omega
      have n1 := ho.rd
      rw [tl_length] at n1
      rw [tl_length]
      rw [hp] at n1 ⊢
      have HN := hide1 n1
      have HE := hide1 hbe
      clear n1 ho hbe hp
      go_wp2
      go_ret2
      exact ⟨_, _, rfl, HN.out, HE.out⟩
end Go.Proofs.Ytgcbdjmlhjbacaa.Gi
