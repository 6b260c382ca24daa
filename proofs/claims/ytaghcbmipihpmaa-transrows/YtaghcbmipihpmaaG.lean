/- Ones counted: Count, Odd. -/
import Derived.Test.YtaghcbmipihpmaaD
namespace Go.Proofs.Ytaghcbmipihpmaa
open Go.RowKit
set_option maxRecDepth 100000
attribute [local go_sem] not_any mf_any

theorem wrap_small {x : Nat} (h : x < 18446744073709551616) : IntKind.u64.wrap (x : Int) = (x : Int) := by
  rw [IntKind.wrap_u64]; omega

theorem wraps_i64 (n : Int) (h₀ : 0 ≤ n) (h₁ : n < 2 ^ 63) : IntKind.i64.wrap n = n := by rw [IntKind.wrap_i64]; omega

theorem and_127 {c : Nat} (h : c < 9223372036854775808) : bits .and .i64 (c : Int) 127 = ((c % 128 : Nat) : Int) := by
  have := bits_mask .i64 63 (by decide) wraps_i64 7 (by decide) (c : Int) (by omega) (by omega)
  simpa using this

theorem pk_lt (k : Nat) : ∀ (ds : List Nat), (∀ d ∈ ds, d < 2 ^ k) → pk k ds < 2 ^ (k * ds.length)
  | [], _ => by simp [pk]
  | d :: ds, h => by
    have h1 := pk_lt k ds (fun x hx => h x (by simp [hx]))
    have h2 := h d (by simp)
    rw [pk, List.length_cons, Nat.mul_add, Nat.mul_one, Nat.pow_add, Nat.mul_comm (2 ^ (k * ds.length))]
    have : 2 ^ k * pk k ds + 2 ^ k ≤ 2 ^ k * 2 ^ (k * ds.length) := by
      rw [← Nat.mul_succ]
      exact Nat.mul_le_mul_left _ h1
    omega

theorem chunk_pad (l : List Bool) (k : Nat) : ∃ l', l'.length = 64 ∧ pack l' = chunk 64 l k ∧ l'.count true = ((l.drop (64 * k)).take 64).count true := by
  refine ⟨(l.drop (64 * k)).take 64 ++ List.replicate (64 - ((l.drop (64 * k)).take 64).length) false, ?_, pack_falses _ _, ?_⟩
  · have : ((l.drop (64 * k)).take 64).length ≤ 64 := by simp; omega
    rw [List.length_append, List.length_replicate]
    omega
  · rw [List.count_append, List.count_replicate]
    simp

theorem and_lit (x m : Nat) (M : Int) (hM : M = (m : Int)) (hx : x < 18446744073709551616) (hm : m < 18446744073709551616) : bits .and .u64 (x : Int) M = ((x &&& m : Nat) : Int) := by rw [hM, u64_and_nat _ _ hx hm]

theorem and_le {x m : Nat} : x &&& m ≤ m := Nat.and_le_right

set_option maxHeartbeats 1000000 in
theorem ones_any (l : List Bool) (w : World) (hl : l.length = 64) :
    Calls Try.prog 41 #[.int .u64 (pack l : Nat)] w fun e w' => e = .returned (.int .i64 (l.count true : Nat)) ∧ w' = w := by
  have hx : pack l < 18446744073709551616 := by have := pack_lt l; rw [hl] at this; exact this
  obtain ⟨es, _, _, h3, h4, h5, h6⟩ := ones_spec l hl
  obtain ⟨p0, p1, p2, p3, p4⟩ := pk8_sum es h4 h6
  rw [← h3] at p0 p1 p2 p3 p4
  rw [h5] at p4
  obtain ⟨x, hxx⟩ : ∃ x, x = pack l := ⟨_, rfl⟩
  rw [← hxx] at hx p0 p1 p2 p3 p4 ⊢
  have m1 : x / 2 &&& 6148914691236517205 ≤ 6148914691236517205 := and_le
  have m2 : x &&& 6148914691236517205 ≤ 6148914691236517205 := and_le
  have e1 : IntKind.u64.wrap (bits .and .u64 ((x : Int) / 2) 6148914691236517205 + bits .and .u64 (x : Int) 6148914691236517205) = (ones1 x : Nat) := by
    rw [show ((x : Int) / 2) = ((x / 2 : Nat) : Int) by omega, and_lit (x / 2) 6148914691236517205 6148914691236517205 rfl (by omega) (by omega), and_lit x 6148914691236517205 6148914691236517205 rfl hx (by omega), ← Int.natCast_add]
    exact wrap_small (by omega)
  have l1 : ones1 x < 18446744073709551616 := by unfold ones1; omega
  obtain ⟨s1, h1⟩ : ∃ s, s = ones1 x := ⟨_, rfl⟩
  rw [← h1] at e1 l1 p0 p1 p2 p3 p4
  have m3 : s1 / 4 &&& 3689348814741910323 ≤ 3689348814741910323 := and_le
  have m4 : s1 &&& 3689348814741910323 ≤ 3689348814741910323 := and_le
  have e2 : IntKind.u64.wrap (bits .and .u64 ((s1 : Int) / 4) 3689348814741910323 + bits .and .u64 (s1 : Int) 3689348814741910323) = (ones2 s1 : Nat) := by
    rw [show ((s1 : Int) / 4) = ((s1 / 4 : Nat) : Int) by omega, and_lit (s1 / 4) 3689348814741910323 3689348814741910323 rfl (by omega) (by omega), and_lit s1 3689348814741910323 3689348814741910323 rfl l1 (by omega), ← Int.natCast_add]
    exact wrap_small (by omega)
  have l2 : ones2 s1 ≤ 7378697629483820646 := by unfold ones2; omega
  obtain ⟨s2, h2⟩ : ∃ s, s = ones2 s1 := ⟨_, rfl⟩
  rw [← h2] at e2 l2 p0 p1 p2 p3 p4
  have e3 : bits .and .u64 (IntKind.u64.wrap ((s2 : Int) / 16 + (s2 : Int))) 1085102592571150095 = (ones3 s2 : Nat) := by
    rw [show ((s2 : Int) / 16) = ((s2 / 16 : Nat) : Int) by omega, ← Int.natCast_add, wrap_small (by omega), and_lit (s2 / 16 + s2) 1085102592571150095 1085102592571150095 rfl (by omega) (by omega)]
    rfl
  obtain ⟨s3, h3'⟩ : ∃ s, s = ones3 s2 := ⟨_, rfl⟩
  rw [← h3'] at e3 p0 p1 p2 p3 p4
  obtain ⟨A, hA⟩ : ∃ A, A = s3 + s3 / 256 := ⟨_, rfl⟩
  rw [← hA] at p1 p2 p3 p4
  obtain ⟨B, hB⟩ : ∃ B, B = A + A / 65536 := ⟨_, rfl⟩
  rw [← hB] at p2 p3 p4
  obtain ⟨C, hC⟩ : ∃ C, C = B + B / 4294967296 := ⟨_, rfl⟩
  rw [← hC] at p3 p4
  have e4 : IntKind.u64.wrap ((s3 : Int) + (s3 : Int) / 256) = (A : Nat) := by
    rw [show ((s3 : Int) / 256) = ((s3 / 256 : Nat) : Int) by omega, ← Int.natCast_add, ← hA, wrap_small p1]
  have e5 : IntKind.u64.wrap ((A : Int) + (A : Int) / 65536) = (B : Nat) := by
    rw [show ((A : Int) / 65536) = ((A / 65536 : Nat) : Int) by omega, ← Int.natCast_add, ← hB, wrap_small p2]
  have e6 : IntKind.u64.wrap ((B : Int) + (B : Int) / 4294967296) = (C : Nat) := by
    rw [show ((B : Int) / 4294967296) = ((B / 4294967296 : Nat) : Int) by omega, ← Int.natCast_add, ← hC, wrap_small (by omega)]
  have e7 : IntKind.i64.wrap (C : Int) = (C : Int) := by rw [IntKind.wrap_i64]; omega
  have e8 : bits .and .i64 (C : Int) 127 = (l.count true : Nat) := by rw [and_127 p3, p4]
  clear hxx h1 h2 h3' hA hB hC p0 p1 p2 p3 p4 m1 m2 m3 m4 l1 l2 h3 h4 h5 h6 hx
  go_enter Try.func41, Try.ntmps41
  go_wp2
  go_ret
  exact ⟨rfl, rfl⟩

theorem ones_chunk (l : List Bool) (k : Nat) (w : World) :
    Calls Try.prog 41 #[.int .u64 (chunk 64 l k : Nat)] w fun e w' => e = .returned (.int .i64 (((l.drop (64 * k)).take 64).count true : Nat)) ∧ w' = w := by
  obtain ⟨l', h1, h2, h3⟩ := chunk_pad l k
  rw [← h2, ← h3]
  exact ones_any l' w h1

theorem count_step (l : List Bool) (k : Nat) : (l.take (64 * (k + 1))).count true = (l.take (64 * k)).count true + ((l.drop (64 * k)).take 64).count true := by
  rw [← List.count_append, ← List.take_add]
  congr 2

set_option maxHeartbeats 1000000 in
theorem count_any (b : Nat) (w : World) (n : Nat) (a : Option Addr) (l : List Bool) (hv : Vc b w n a l) (hn : n ≤ 4194304) :
    Calls Try.prog 18 #[.agg #[.int .i64 n, .slice a (need n 64) (need n 64)]] w fun e w' => e = .returned (.int .i64 (l.count true : Nat)) ∧ w' = w.alloc (.cells #[.int .i64 n, .slice a (need n 64) (need n 64)] 32) := by
  have HV := hide1 (hv.alloc (.cells #[.int .i64 n, .slice a (need n 64) (need n 64)] 32))
  clear hv
  have hm : need n 64 ≤ 65536 := by rw [need64]; omega
  go_enter Try.func18, Try.ntmps18
  go_wp2
  go_loopw [3, 9] (fun c i wr => ∃ k : Nat, k ≤ need n 64 ∧ i = .int .i64 k ∧ c = .int .i64 ((l.take (64 * k)).count true : Nat) ∧ wr = w.alloc (.cells #[.int .i64 n, .slice a (need n 64) (need n 64)] 32)) (fun _ i _ => need n 64 - (intOf i).toNat)
  case atStart => exact ⟨0, Nat.zero_le _, rfl, by simp, rfl⟩
  case round =>
    obtain ⟨k, hk, rfl, rfl, rfl⟩ := hrel
    by_cases hlt : k < need n 64
    · obtain ⟨g, rfl, _, hg, hc⟩ := HV.out.cell hlt
      have hO := fun w => hide1 (ones_chunk l k w)
      have HS := hide1 (count_step l k)
      have hcnt : (l.take (64 * (k + 1))).count true ≤ 4194304 := by
        have h1 := List.count_le_length (a := true) (l := l.take (64 * (k + 1)))
        have h2 : (l.take (64 * (k + 1))).length ≤ l.length := by simp; omega
        have h3 := HV.out.len
        omega
      rw [HS.out] at hcnt
      obtain ⟨x, hx⟩ : ∃ x, x = (l.take (64 * k)).count true := ⟨_, rfl⟩
      obtain ⟨y, hy⟩ : ∃ y, y = ((l.drop (64 * k)).take 64).count true := ⟨_, rfl⟩
      rw [← hx, ← hy] at hcnt HS
      rw [← hx]
      rw [← hy] at hO
      clear hg hx hy
      go_wp2_with (first | (go_at_call 41; refine (hO _).out.mono ?_; rintro e w' ⟨rfl, rfl⟩))
      go_roundw
      case rel => exact ⟨k + 1, by omega, by go_num, by rw [HS.out]; go_num, by trivial⟩
      case measure => simp [intOf]; omega
    · have : k = need n 64 := by omega
      subst this
      go_wp2
      go_ret
      refine ⟨?_, rfl⟩
      rw [List.take_of_length_le (by rw [HV.out.len, need64]; omega)]
      rfl

end Go.Proofs.Ytaghcbmipihpmaa
