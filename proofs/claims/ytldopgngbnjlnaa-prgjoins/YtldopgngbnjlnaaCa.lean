/- Cut, as the program and as the document reckons it; the example 'awake'. -/
import Derived.Test.YtldopgngbnjlnaaA
namespace Go.Proofs.Ytldopgngbnjlnaa
open Go.RowKit
set_option maxRecDepth 100000
attribute [local go_sem] not_any

def cutN (n : Nat) : Nat := if n = 0 then 0 else (18446744073709551616 - 18446744073709551616 % n) % 18446744073709551616

theorem top_mod {n : Nat} (hn : n < 18446744073709551616) : (18446744073709551616 - n) % n = 18446744073709551616 % n := by
  conv => rhs; rw [show 18446744073709551616 = (18446744073709551616 - n) + n by omega, Nat.add_mod_right]

theorem cutN_lt (n : Nat) : cutN n < 18446744073709551616 := by
  unfold cutN
  split
  · omega
  · exact Nat.mod_lt _ (by omega)

theorem cut_any (n : Nat) (w : World) (hn : n < 18446744073709551616) :
    Calls Try.prog 26 #[.int .u64 (n : Int)] w fun e w' => e = .returned (.int .u64 (cutN n : Nat)) ∧ w' = w := by
  by_cases h0 : n = 0
  · subst h0
    go_enter Try.func26, Try.ntmps26
    go_wp2
    go_ret
    exact ⟨rfl, rfl⟩
  · have h1 : (n : Int) ≠ 0 := by omega
    have hm : IntKind.u64.wrap (-(n : Int)) = ((18446744073709551616 - n : Nat) : Int) := by rw [IntKind.wrap_u64]; omega
    go_enter Try.func26, Try.ntmps26
    go_wp2
    go_ret
    refine ⟨ret_int ?_, rfl⟩
    rw [show ((18446744073709551616 - n : Nat) : Int) % (n : Int) = ((18446744073709551616 % n : Nat) : Int) by rw [← Int.natCast_emod, top_mod hn], IntKind.wrap_u64, cutN, if_neg h0]
    have : 18446744073709551616 % n ≤ 18446744073709551616 := Nat.mod_le _ _
    generalize 18446744073709551616 % n = r at *
    omega

theorem left_of {n : Nat} (h0 : n ≠ 0) : 18446744073709551616 % n = if 18446744073709551615 % n + 1 = n then 0 else 18446744073709551615 % n + 1 := by
  have h := Nat.mod_lt 18446744073709551615 (show n > 0 by omega)
  have e : 18446744073709551616 % n = (18446744073709551615 % n + 1) % n := by
    rw [show 18446744073709551616 = 18446744073709551615 + 1 by rfl, Nat.add_mod]
    conv => rhs; rw [Nat.add_mod, Nat.mod_mod]
  rw [e]
  split
  · rename_i he
    rw [he, Nat.mod_self]
  · exact Nat.mod_eq_of_lt (by omega)

theorem rcut_any (n : Nat) (w : World) (hn : n < 18446744073709551616) :
    Calls Try.prog 27 #[.int .u64 (n : Int)] w fun e w' => e = .returned (.int .u64 (cutN n : Nat)) ∧ w' = w := by
  by_cases h0 : n = 0
  · subst h0
    go_enter Try.func27, Try.ntmps27
    go_wp2
    go_ret
    exact ⟨rfl, rfl⟩
  · have h1 : (n : Int) ≠ 0 := by omega
    have h := Nat.mod_lt 18446744073709551615 (show n > 0 by omega)
    have hl := left_of h0
    obtain ⟨r, hr⟩ : ∃ r, r = 18446744073709551615 % n := ⟨_, rfl⟩
    have e1 : (18446744073709551615 : Int) % (n : Int) = (r : Int) := by rw [hr, Int.natCast_emod]; rfl
    obtain ⟨q, hq⟩ : ∃ q, q = r + 1 := ⟨_, rfl⟩
    have e2 : IntKind.u64.wrap ((r : Int) + 1) = (q : Int) := by rw [IntKind.wrap_u64]; omega
    have HC : Shy (cutN n = if r + 1 = n then 0 else 18446744073709551615 - r) := ⟨by
      rw [cutN, if_neg h0, hl, ← hr]
      split <;> omega⟩
    have HQ : Shy (q = r + 1 ∧ r < n) := ⟨⟨hq, by omega⟩⟩
    clear hl hr h hq
    by_cases he : r + 1 = n
    · have he' : q = n := by have := HQ.out; omega
      subst he'
      rw [HC.out, if_pos he]
      go_enter Try.func27, Try.ntmps27
      go_wp2
      go_ret
      exact ⟨rfl, rfl⟩
    · have he' : (q == n) = false := by rw [beq_eq_false_iff_ne]; have := HQ.out; omega
      have he2 : ((q : Int) == (n : Int)) = false := by rw [beq_eq_false_iff_ne]; have := HQ.out; omega
      rw [HC.out, if_neg he]
      go_enter Try.func27, Try.ntmps27
      go_wp2
      go_ret
      refine ⟨ret_int ?_, rfl⟩
      rw [IntKind.wrap_u64]
      have := HQ.out
      omega

theorem awake_any (w : World) : Calls Try.prog 9 #[] w fun e w' => e = .returned (.bool true) ∧ w' = w := by
  have k3 := fun w => hide1 (cut_any 3 w (by omega))
  have k4 := fun w => hide1 (cut_any 4 w (by omega))
  rw [show cutN 3 = 18446744073709551615 by rfl] at k3
  rw [show cutN 4 = 0 by rfl] at k4
  go_enter Try.func9, Try.ntmps9
  go_wp2_with fail
  go_at_call 26
  refine (k3 _).out.mono ?_
  rintro e w' ⟨rfl, rfl⟩
  go_wp2_with fail
  go_at_call 26
  refine (k4 _).out.mono ?_
  rintro e w' ⟨rfl, rfl⟩
  go_wp2
  go_ret
  exact ⟨rfl, rfl⟩
end Go.Proofs.Ytldopgngbnjlnaa
