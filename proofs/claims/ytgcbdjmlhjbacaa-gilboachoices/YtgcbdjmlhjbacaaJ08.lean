/- The document's check of how many bits numbers have. -/
import Derived.Test.YtgcbdjmlhjbacaaJ04
import Derived.Test.YtgcbdjmlhjbacaaJ05
namespace Go.Proofs.Ytgcbdjmlhjbacaa.Ri
open Go.RowKit
set_option maxRecDepth 100000
attribute [local go_sem] not_any mf_any

set_option maxHeartbeats 4000000 in
theorem rfits_any (L : Nat) (w : World) (m c : Nat) (a : Option Addr) (ws : List Nat) (ha : Nl w m a ws) (hs : Small ws) (hm : m ≤ 4194304) (h1 : 1 ≤ L) (h2 : L ≤ 64) :
    Calls Try.prog 29 #[.int .i64 (L : Int), .slice a m c] w fun e w' => e = .returned (.bool (fitsAll (L : Int) ws)) ∧ ∃ q, w' = w.drewN q := by
  have HA := hide1 ha
  have HS := hide1 hs
  clear ha hs
  go_enter Try.func29, Try.ntmps29
  go_wp2
  go_loopw [5] (fun i wr => ∃ k q : Nat, k ≤ m ∧ i = .int .i64 k ∧ (∀ x ∈ ws.take k, fit (L : Int) x = x) ∧ wr = w.drewN q) (fun i _ => m - (intOf i).toNat)
  case atStart => exact ⟨0, 0, Nat.zero_le _, rfl, by simp, rfl⟩
  case round =>
    obtain ⟨k, q, hk, rfl, hE, rfl⟩ := hrel
    by_cases hlt : k < m
    · obtain ⟨x, g, o, hx, rfl, hcc⟩ := HA.out.get hlt
      have hc := hcc q
      have hF : ∀ w, Hid (Calls Try.prog 19 #[.int .i64 (L : Int), .int .u64 (x : Int)] w fun e w' => e = .returned (.int .u64 (fit (L : Int) x : Nat)) ∧ w' = w) := fun w => by rw [fit_nat h1 h2]; exact rfit_any L x w h1 h2 (HS.out k x hx)
      have HE := hide1 hE
      have HX := hide1 hx
      obtain ⟨W, hW⟩ : ∃ W, w.drewN q = W := ⟨_, rfl⟩
      rw [hW] at hc
      rw [hW]
      have HW := hide1 hW
      clear hcc hE hx hW
      by_cases hxy : fit (L : Int) x = x
      · rw [hxy] at hF
        have h2 : ((x : Int) != (x : Int)) = false := by simp
        have HH := hide1 hxy
        clear hxy
        go_wp2
        go_quiet (first | (go_at_call 19; exact Calls.quiet_of_same (hF _).out))
        go_wp2
        go_roundw
        case rel => exact ⟨k + 1, q + nq, by omega, by go_num, fits_take HE.out HX.out HH.out, by rw [← HW.out]; exact World.drewN_drewN _ _ _⟩
        case measure => simp [intOf]; omega
      · obtain ⟨y, hy⟩ : ∃ y, y = fit (L : Int) x := ⟨_, rfl⟩
        rw [← hy] at hF hxy
        have HY := hide1 hy
        clear hy
        have h2 : ((y : Int) != (x : Int)) = true := by rw [bne_iff_ne]; omega
        go_wp2
        go_quiet (first | (go_at_call 19; exact Calls.quiet_of_same (hF _).out))
        go_wp2
        go_ret
        refine ⟨?_, q + nq, by rw [← HW.out]; exact World.drewN_drewN _ _ _⟩
        have : fitsAll (L : Int) ws = false := by
          apply decide_eq_false
          intro h
          exact hxy (HY.out.trans (h x (List.mem_of_getElem? HX.out)))
        rw [this]
        rfl
    · have : k = m := by omega
      subst this
      go_wp2
      go_ret
      refine ⟨?_, q, rfl⟩
      rw [List.take_of_length_le (by rw [HA.out.len]; omega)] at hE
      have : fitsAll (L : Int) ws = true := decide_eq_true hE
      rw [this]
      rfl

end Go.Proofs.Ytgcbdjmlhjbacaa.Ri
