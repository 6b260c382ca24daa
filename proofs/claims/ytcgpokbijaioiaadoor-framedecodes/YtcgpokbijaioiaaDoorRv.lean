/- The document's value of bytes. -/
import Derived.Test.YtcgpokbijaioiaaDoorWb
namespace Go.Proofs.YtcgpokbijaioiaaDoor
open Go.RowKit
set_option maxRecDepth 100000
attribute [local go_sem] not_any mf_any

set_option maxHeartbeats 1000000 in
theorem value_any (s : ByteArray) (w : World) (hs : s.size ≤ 8) :
    Calls Tryd.prog 49 #[.string s] w fun e w' => e = .returned (.int .u64 (val (nums s) : Nat)) ∧ w' = w := by
  have HL := nums_all s
  go_enter Tryd.func49, Tryd.ntmps49
  go_wp2
  go_loop [3, 4] (fun x i => ∃ k : Nat, k ≤ s.size ∧ i = .int .i64 k ∧ x = .int .u64 (val ((nums s).take k) : Nat)) (fun _ i => s.size - (intOf i).toNat)
  case atStart => exact ⟨0, Nat.zero_le _, rfl, rfl⟩
  case round =>
    obtain ⟨k, hk, rfl, rfl⟩ := hrel
    by_cases hlt : k < s.size
    · have hv := val_lt _ (HL.take k)
      have hx := nums_at hlt
      have hb := nums_lt hx
      have hts : (nums s).take (k + 1) = (nums s).take k ++ [(s[k]'hlt).toNat] := by rw [List.take_add_one, hx]; rfl
      have HS : Shy (val ((nums s).take (k + 1)) = 256 * val ((nums s).take k) + (s[k]'hlt).toNat) := ⟨by rw [hts, val_snoc]⟩
      have hk8 : ((nums s).take k).length = k := by rw [List.length_take, nums_length]; omega
      rw [hk8] at hv
      have hv2 : 256 * val ((nums s).take k) + 256 ≤ 18446744073709551616 := by
        have : 256 ^ (k + 1) ≤ 256 ^ 8 := Nat.pow_le_pow_right (by omega) (by omega)
        rw [Nat.pow_succ] at this
        omega
      clear hts hv hx hk8
      generalize val ((nums s).take k) = v at *
      have h1 : IntKind.u64.wrap (256 * (v : Int)) = 256 * (v : Int) := by rw [IntKind.wrap_u64]; omega
      have h2 : IntKind.u64.wrap (256 * (v : Int) + ((s[k]'hlt).toNat : Int)) = 256 * (v : Int) + ((s[k]'hlt).toNat : Int) := by rw [IntKind.wrap_u64]; omega
      clear HL
      go_wp2
      go_round
      case rel => exact ⟨k + 1, by omega, by go_num, by rw [HS.out]; simp⟩
      case measure => simp [intOf]; omega
    · have : k = s.size := by omega
      go_wp2
      go_ret
      rw [List.take_of_length_le (by rw [nums_length]; omega)]
      exact ⟨rfl, rfl⟩
end Go.Proofs.YtcgpokbijaioiaaDoor
