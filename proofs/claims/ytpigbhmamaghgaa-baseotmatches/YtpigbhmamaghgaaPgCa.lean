/- Cut, as the program and as the document reckons it; the example 'awake'. -/
import Derived.Test.YtpigbhmamaghgaaPgA
namespace Go.Proofs.Ytpigbhmamaghgaa.Pg
open Go.RowKit
set_option maxRecDepth 100000
attribute [local go_sem] not_any

def cutN (n : Nat) : Nat := if n = 0 then 0 else (18446744073709551616 - 18446744073709551616 % n) % 18446744073709551616

theorem top_mod {n : Nat} (hn : n < 18446744073709551616) : (18446744073709551616 - n) % n = 18446744073709551616 % n := by
  conv => rhs; rw [show 18446744073709551616 = (18446744073709551616 - n) + n by omega, Nat.add_mod_right]

theorem cutN_lt (n : Nat) : cutN n < 18446744073709551616 := by
  unfold cutN
  split
  · omega
  · exact Nat.mod_lt _ (by omega)

theorem left_of {n : Nat} (h0 : n ≠ 0) : 18446744073709551616 % n = if 18446744073709551615 % n + 1 = n then 0 else 18446744073709551615 % n + 1 := by
  have h := Nat.mod_lt 18446744073709551615 (show n > 0 by omega)
  have e : 18446744073709551616 % n = (18446744073709551615 % n + 1) % n := by
    rw [show 18446744073709551616 = 18446744073709551615 + 1 by rfl, Nat.add_mod]
    conv => rhs; rw [Nat.add_mod, Nat.mod_mod]
  rw [e]
  split
  · rename_i he
    rw [he, Nat.mod_self]
  · exact Nat.mod_eq_of_lt (by omega)

end Go.Proofs.Ytpigbhmamaghgaa.Pg
