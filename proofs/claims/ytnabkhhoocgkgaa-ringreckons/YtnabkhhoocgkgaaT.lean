/- Powers: R.Pow, math/bits.Len, Pow. -/
import Derived.Test.YtnabkhhoocgkgaaC
import Derived.Lib.Strings
import Derived.Lib.Slices
import Derived.Lib.Small
import Derived.Lib.BitFns
import Derived.Lib.Walk
namespace Go.Proofs.Ytnabkhhoocgkgaa
open Go.RowKit
set_option maxRecDepth 100000
attribute [local go_sem] not_any mf_any

theorem fold_tab : (⟨((([0, 1, 2, 2, 3, 3, 3, 3, 4, 4, 4, 4, 4, 4, 4, 4, 5, 5, 5, 5, 5, 5, 5, 5, 5, 5, 5, 5, 5, 5, 5, 5, 6, 6, 6, 6, 6, 6, 6, 6, 6, 6, 6, 6, 6, 6, 6, 6, 6, 6, 6, 6, 6, 6, 6, 6, 6, 6, 6, 6, 6, 6, 6, 6] : List UInt8).append [7, 7, 7, 7, 7, 7, 7, 7, 7, 7, 7, 7, 7, 7, 7, 7, 7, 7, 7, 7, 7, 7, 7, 7, 7, 7, 7, 7, 7, 7, 7, 7, 7, 7, 7, 7, 7, 7, 7, 7, 7, 7, 7, 7, 7, 7, 7, 7, 7, 7, 7, 7, 7, 7, 7, 7, 7, 7, 7, 7, 7, 7, 7, 7]).append ([8, 8, 8, 8, 8, 8, 8, 8, 8, 8, 8, 8, 8, 8, 8, 8, 8, 8, 8, 8, 8, 8, 8, 8, 8, 8, 8, 8, 8, 8, 8, 8, 8, 8, 8, 8, 8, 8, 8, 8, 8, 8, 8, 8, 8, 8, 8, 8, 8, 8, 8, 8, 8, 8, 8, 8, 8, 8, 8, 8, 8, 8, 8, 8].append [8, 8, 8, 8, 8, 8, 8, 8, 8, 8, 8, 8, 8, 8, 8, 8, 8, 8, 8, 8, 8, 8, 8, 8, 8, 8, 8, 8, 8, 8, 8, 8, 8, 8, 8, 8, 8, 8, 8, 8, 8, 8, 8, 8, 8, 8, 8, 8, 8, 8, 8, 8, 8, 8, 8, 8, 8, 8, 8, 8, 8, 8, 8, 8])).toArray⟩ : ByteArray) = Lib.len8tab := by decide +kernel


theorem len8_nat : ∀ j : Fin 256, 0 ≤ Lib.len8 (j.1 : Int) ∧ Lib.len8 (j.1 : Int) ≤ 8 ∧ j.1 < 2 ^ (Lib.len8 (j.1 : Int)).toNat := by decide +kernel

theorem len8_int {y : Int} (h0 : 0 ≤ y) (h1 : y < 256) : ∃ k : Nat, k ≤ 8 ∧ Lib.len8 y = k ∧ y.toNat < 2 ^ k := by
  have := len8_nat ⟨y.toNat, by omega⟩
  rw [show (((⟨y.toNat, by omega⟩ : Fin 256).1 : Nat) : Int) = y by show ((y.toNat : Nat) : Int) = y; omega] at this
  exact ⟨(Lib.len8 y).toNat, by omega, by omega, this.2.2⟩

theorem tab_size : (Lib.len8tab.size : Int) = 256 := by rw [Lib.len8tab_size]; rfl

theorem tab_at (y : Int) (h : y.toNat < Lib.len8tab.size) (h0 : 0 ≤ y) : ∃ k : Nat, k ≤ 8 ∧ (((Lib.len8tab[y.toNat]'h).toNat : Nat) : Int) = k ∧ y.toNat < 2 ^ k := by
  have := tab_size
  obtain ⟨k, h1, h2, h3⟩ := len8_int h0 (by omega)
  refine ⟨k, h1, ?_, h3⟩
  rw [← h2]
  unfold Lib.len8
  rw [getElem?_pos Lib.len8tab y.toNat h]
  rfl

theorem shifted {x y s k P : Nat} (hP : P = 2 ^ s) (h : x / P = y) (hk : y < 2 ^ k) : x < 2 ^ (s + k) := by
  rw [Nat.pow_add, Nat.mul_comm, ← hP]
  rw [← h] at hk
  have := pow_pos2 s
  exact (Nat.div_lt_iff_lt_mul (by omega)).1 hk

theorem len_end {s k : Nat} {v : Int} (hs : s ≤ 56) (hk : k ≤ 8) (hv : v = k) : wrap64 ((s : Int) + wrap64 v) = ((s + k : Nat) : Int) ∧ wrap64 (wrap64 v) = (k : Int) ∧ wrap64 v = (k : Int) := by
  subst hv
  unfold wrap64
  omega

set_option maxHeartbeats 4000000 in
theorem len64_int (x : Int) (w : World) (h0 : 0 ≤ x) (h1 : x ≤ 18446744073709551615) :
    Calls Try.prog 43 #[.int .u64 x] w fun e w' => (∃ k : Nat, k ≤ 64 ∧ x.toNat < 2 ^ k ∧ e = .returned (.int .i64 (k : Int))) ∧ w' = w := by
  go_enter Try.func43, Try.ntmps43
  rw [fold_tab]
  go_wp2

  all_goals first
    | (go_ret; refine ⟨?_, rfl⟩)
    | (exfalso
       have hs := tab_size
       omega)
  · obtain ⟨k, h3, h4, h5⟩ := tab_at (x / 4294967296 / 65536 / 256) (by omega) (by omega)
    exact ⟨56 + k, by omega, shifted (s := 56) (P := 72057594037927936) rfl (by omega) h5, congrArg Ending.returned (congrArg (Value.int IntKind.i64) (len_end (s := 56) (by omega) h3 h4).1)⟩
  · obtain ⟨k, h3, h4, h5⟩ := tab_at (x / 4294967296 / 65536) (by omega) (by omega)
    exact ⟨48 + k, by omega, shifted (s := 48) (P := 281474976710656) rfl (by omega) h5, congrArg Ending.returned (congrArg (Value.int IntKind.i64) (len_end (s := 48) (by omega) h3 h4).1)⟩
  · obtain ⟨k, h3, h4, h5⟩ := tab_at (x / 4294967296 / 256) (by omega) (by omega)
    exact ⟨40 + k, by omega, shifted (s := 40) (P := 1099511627776) rfl (by omega) h5, congrArg Ending.returned (congrArg (Value.int IntKind.i64) (len_end (s := 40) (by omega) h3 h4).1)⟩
  · obtain ⟨k, h3, h4, h5⟩ := tab_at (x / 4294967296) (by omega) (by omega)
    exact ⟨32 + k, by omega, shifted (s := 32) (P := 4294967296) rfl (by omega) h5, congrArg Ending.returned (congrArg (Value.int IntKind.i64) (len_end (s := 32) (by omega) h3 h4).1)⟩
  · obtain ⟨k, h3, h4, h5⟩ := tab_at (x / 65536 / 256) (by omega) (by omega)
    exact ⟨24 + k, by omega, shifted (s := 24) (P := 16777216) rfl (by omega) h5, congrArg Ending.returned (congrArg (Value.int IntKind.i64) (len_end (s := 24) (by omega) h3 h4).1)⟩
  · obtain ⟨k, h3, h4, h5⟩ := tab_at (x / 65536) (by omega) (by omega)
    exact ⟨16 + k, by omega, shifted (s := 16) (P := 65536) rfl (by omega) h5, congrArg Ending.returned (congrArg (Value.int IntKind.i64) (len_end (s := 16) (by omega) h3 h4).1)⟩
  · obtain ⟨k, h3, h4, h5⟩ := tab_at (x / 256) (by omega) (by omega)
    exact ⟨8 + k, by omega, shifted (s := 8) (P := 256) rfl (by omega) h5, congrArg Ending.returned (congrArg (Value.int IntKind.i64) (len_end (s := 8) (by omega) h3 h4).1)⟩
  · obtain ⟨k, h3, h4, h5⟩ := tab_at x (by omega) (by omega)
    exact ⟨k, by omega, h5, congrArg Ending.returned (congrArg (Value.int IntKind.i64) (len_end (s := 0) (by omega) h3 h4).2.1)⟩

theorem len_any (x : Nat) (w : World) (hx : x < 18446744073709551616) :
    Calls Try.prog 39 #[.int .u64 (x : Int)] w fun e w' => (∃ k : Nat, k ≤ 64 ∧ x < 2 ^ k ∧ e = .returned (.int .i64 (k : Int))) ∧ w' = w := by
  have hL := fun w => hide1 (len64_int (x : Int) w (by omega) (by omega))
  go_enter Try.func39, Try.ntmps39
  go_wp2_with (first | (go_at_call 43; refine (hL _).out.mono ?_; rintro e w' ⟨⟨k, h1, h2, rfl⟩, rfl⟩))
  go_ret
  exact ⟨⟨k, h1, by simpa using h2, rfl⟩, rfl⟩

end Go.Proofs.Ytnabkhhoocgkgaa
