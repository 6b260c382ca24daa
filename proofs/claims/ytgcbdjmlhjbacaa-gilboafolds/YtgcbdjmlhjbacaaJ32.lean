/- GilboaFolds, of all that may come. -/
import Derived.Test.YtgcbdjmlhjbacaaJ31
namespace Go.Proofs.Ytgcbdjmlhjbacaa.Gi
open Go.RowKit Ri
set_option maxRecDepth 100000
attribute [local go_sem] Ri.not_any Ri.mf_any

set_option maxHeartbeats 8000000 in
theorem folds_all (W n : Int) (k m u ca c cu : Nat) (aa a au : Option Addr) (us l ns : List Nat) (w : World) (haa : Nl w k aa us) (hsa : Small us) (ha : Nl w m a l) (hs : Small l) (hau : Nl w u au ns) (hsu : Small ns) :
    Calls Try.prog 5 #[.int .i64 W, .int .i64 n, .slice aa k ca, .slice a m c, .slice au u cu] w fun e w' => e = .returned (.bool true) ∧ Below w.heap.size w w' := by
  have kW := fun w => hide1 (wrong_any W n w)
  have kA := hide1 (awake_any w)
  cases hb : bad W n with
  | true =>
    rw [hb] at kW
    clear haa hsa ha hs hau hsu
    go_enter Try.func5, Try.ntmps5
    go_wp2_with (first | (go_at_call 18; refine (kW _).out.mono ?_; rintro e w' ⟨rfl, he0⟩; obtain rfl := he0.symm; clear he0) | (go_at_call 6; refine kA.out.mono ?_; rintro e w' ⟨rfl, hb⟩; have HB := hide1 hb; clear hb) | fail)
    go_ret
    exact ⟨rfl, HB.out⟩
  | false =>
    obtain ⟨hW, hn⟩ := bad_no hb
    obtain ⟨L, rfl, h1, h2⟩ := okW_nat hW
    obtain ⟨N, rfl, h3, h4⟩ := okN_nat hn
    rw [hb] at kW
    by_cases hk0 : k = 0
    · subst hk0
      clear haa hsa ha hs hau hsu
      go_enter Try.func5, Try.ntmps5
      go_wp2_with (first | (go_at_call 18; refine (kW _).out.mono ?_; rintro e w' ⟨rfl, he0⟩; obtain rfl := he0.symm; clear he0) | (go_at_call 6; refine kA.out.mono ?_; rintro e w' ⟨rfl, hb⟩; have HB := hide1 hb; clear hb) | fail)
      go_ret
      exact ⟨rfl, HB.out⟩
    · have i1 : ((k : Int) == 0) = false := by rw [beq_eq_false_iff_ne]; omega
      by_cases hk8 : k ≤ 8
      · have i2 : ¬ (8 : Int) < (k : Int) := by omega
        obtain ⟨M1, R, Nn, Q, ss, ones, oths, CL, CF, S, O, T', P1, P2, RR, hM, KS⟩ := ks_of (u := u) us l ns h1 h2 h3 h4 hk8
        by_cases hkm : M1 ≤ m
        · by_cases hu : u = 0
          · have e0 := KS.e0
            have i3 : ¬ (m : Int) < (M1 : Int) := by omega
            subst hu
            clear haa hsa ha hs hau hsu hM KS
            go_enter Try.func5, Try.ntmps5
            go_wp2_with (first | (go_at_call 18; refine (kW _).out.mono ?_; rintro e w' ⟨rfl, he0⟩; obtain rfl := he0.symm; clear he0) | (go_at_call 6; refine kA.out.mono ?_; rintro e w' ⟨rfl, hb⟩; have HB := hide1 hb; clear hb) | fail)
            go_ret
            exact ⟨rfl, HB.out⟩
          · exact folds_good L N k m u M1 R Nn Q ca c cu aa a au us l ns _ _ ss ones oths CL CF S O T' P1 P2 RR w h1 h2 h3 h4 (by omega) hk8 hkm (by omega) haa hsa ha hs hau hsu rfl rfl KS
        · have e0 := KS.e0
          have i3 : (m : Int) < (M1 : Int) := by omega
          clear haa hsa ha hs hau hsu hM KS
          go_enter Try.func5, Try.ntmps5
          go_wp2_with (first | (go_at_call 18; refine (kW _).out.mono ?_; rintro e w' ⟨rfl, he0⟩; obtain rfl := he0.symm; clear he0) | (go_at_call 6; refine kA.out.mono ?_; rintro e w' ⟨rfl, hb⟩; have HB := hide1 hb; clear hb) | fail)
          go_ret
          exact ⟨rfl, HB.out⟩
      · have i2 : (8 : Int) < (k : Int) := by omega
        clear haa hsa ha hs hau hsu
        go_enter Try.func5, Try.ntmps5
        go_wp2_with (first | (go_at_call 18; refine (kW _).out.mono ?_; rintro e w' ⟨rfl, he0⟩; obtain rfl := he0.symm; clear he0) | (go_at_call 6; refine kA.out.mono ?_; rintro e w' ⟨rfl, hb⟩; have HB := hide1 hb; clear hb) | fail)
        go_ret
        exact ⟨rfl, HB.out⟩
end Go.Proofs.Ytgcbdjmlhjbacaa.Gi
