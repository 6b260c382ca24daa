/- Lists held against each other. -/
import Derived.Test.YtgcbdjmlhjbacaaJ15
namespace Go.Proofs.Ytgcbdjmlhjbacaa.T
open Go.RowKit
set_option maxRecDepth 100000
attribute [local go_sem] not_any mf_any

set_option maxHeartbeats 2000000 in
theorem nums_any (w : World) (m c c' : Nat) (a b : Option Addr) (xs : List Nat) (ha : Nl w m a xs) (hb : Nl w m b xs) (hm : m ≤ 65536) :
    Calls Try.prog 17 #[.slice a m c, .slice b m c'] w fun e w' => e = .returned (.bool true) ∧ ∃ q, w' = w.drewN q := by
  have HA := hide1 ha
  have HB := hide1 hb
  clear ha hb
  have h' : ((m : Int) != (m : Int)) = false := by simp
  go_enter Try.func17, Try.ntmps17
  go_wp2
  go_loopw [5] (fun i wr => ∃ k q : Nat, k ≤ m ∧ i = .int .i64 k ∧ wr = w.drewN q) (fun i _ => m - (intOf i).toNat)
  case atStart => exact ⟨0, 0, Nat.zero_le _, rfl, rfl⟩
  case round =>
    obtain ⟨k, q, hk, rfl, rfl⟩ := hrel
    by_cases hlt : k < m
    · obtain ⟨x, hx⟩ : ∃ x, xs[k]? = some x := ⟨_, List.getElem?_eq_getElem (by rw [HA.out.len]; exact hlt)⟩
      obtain ⟨ga, oa, rfl, hca⟩ := HA.out.at' k x hx
      obtain ⟨gb, ob, rfl, hcb⟩ := HB.out.at' k x hx
      have hca' : (w.drewN q).cell? ⟨ga, oa + k, none⟩ = some (.int .u64 (x : Int)) := hca
      have hcb' : (w.drewN q).cell? ⟨gb, ob + k, none⟩ = some (.int .u64 (x : Int)) := hcb
      clear hx
      have h2 : ((x : Int) != (x : Int)) = false := by simp
      go_wp2
      go_quiet (fail)
      go_wp2
      exact ⟨⟨k + 1, q + nq, by omega, by go_num, rfl⟩, by simp [intOf]; omega⟩
    · have : k = m := by omega
      subst this
      go_wp2
      go_ret
      exact ⟨rfl, q, rfl⟩

set_option maxHeartbeats 2000000 in
theorem same_any (w : World) (n m c c' : Nat) (a b : Option Addr) (xs ys : List Bool) (ha : Bl w n a xs) (hb : Bl w m b ys) (hn : n ≤ 4194304) (hm : m ≤ 4194304) :
    Calls Try.prog 9 #[.slice a n c, .slice b m c'] w fun e w' => e = .returned (.bool (decide (xs = ys))) ∧ ∃ q, w' = w.drewN q := by
  by_cases hnm : n = m
  · subst hnm
    have HA := hide1 ha
    have HB := hide1 hb
    clear ha hb
    have h' : ((n : Int) != (n : Int)) = false := by simp
    go_enter Try.func9, Try.ntmps9
    go_wp2
    go_loopw [5] (fun i wr => ∃ k q : Nat, k ≤ n ∧ i = .int .i64 k ∧ xs.take k = ys.take k ∧ wr = w.drewN q) (fun i _ => n - (intOf i).toNat)
    case atStart => exact ⟨0, 0, Nat.zero_le _, rfl, by simp, rfl⟩
    case round =>
      obtain ⟨k, q, hk, rfl, hE, rfl⟩ := hrel
      by_cases hlt : k < n
      · obtain ⟨x, hx⟩ : ∃ x, xs[k]? = some x := ⟨_, List.getElem?_eq_getElem (by rw [HA.out.len]; exact hlt)⟩
        obtain ⟨y, hy⟩ : ∃ y, ys[k]? = some y := ⟨_, List.getElem?_eq_getElem (by rw [HB.out.len]; exact hlt)⟩
        obtain ⟨ga, oa, rfl, hca⟩ := HA.out.at' k x hx
        obtain ⟨gb, ob, rfl, hcb⟩ := HB.out.at' k y hy
        have hca' : (w.drewN q).cell? ⟨ga, oa + k, none⟩ = some (.bool x) := hca
        have hcb' : (w.drewN q).cell? ⟨gb, ob + k, none⟩ = some (.bool y) := hcb
        have HE := hide1 hE
        have HX := hide1 hx
        have HY := hide1 hy
        clear hE hx hy
        by_cases hxy : x = y
        · subst hxy
          have h2 : (x != x) = false := by simp
          go_wp2
          go_quiet (fail)
          go_wp2
          exact ⟨⟨k + 1, q + nq, by omega, by go_num, take_succ_eq HE.out HX.out HY.out, rfl⟩, by simp [intOf]; omega⟩
        · have HN : Hid (xs ≠ ys) := fun e => by
            have h1 := HX.out
            rw [e, HY.out] at h1
            exact hxy (Option.some.inj h1).symm
          cases x with
          | false =>
            cases y with
            | false => exact absurd rfl hxy
            | true =>
              clear hxy
              go_wp2
              go_quiet (fail)
              go_wp2
              go_ret
              exact ⟨by simp [HN.out], q + nq, World.drewN_drewN _ _ _⟩
          | true =>
            cases y with
            | true => exact absurd rfl hxy
            | false =>
              clear hxy
              go_wp2
              go_quiet (fail)
              go_wp2
              go_ret
              exact ⟨by simp [HN.out], q + nq, World.drewN_drewN _ _ _⟩
      · have : k = n := by omega
        subst this
        go_wp2
        go_ret
        refine ⟨?_, q, rfl⟩
        rw [List.take_of_length_le (by rw [HA.out.len]; omega), List.take_of_length_le (by rw [HB.out.len]; omega)] at hE
        simp [hE]
  · have h' : ((n : Int) != (m : Int)) = true := by simp; omega
    have : ¬ xs = ys := fun e => hnm (by rw [← ha.len, ← hb.len, e])
    have HN := hide1 this
    clear ha hb this
    go_enter Try.func9, Try.ntmps9
    go_wp2
    go_ret
    exact ⟨by simp [HN.out], 0, rfl⟩

end Go.Proofs.Ytgcbdjmlhjbacaa.T
