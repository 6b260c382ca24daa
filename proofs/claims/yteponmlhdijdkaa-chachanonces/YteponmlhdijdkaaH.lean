/- Nonce; the walk of ChachaNonces. -/
import Derived.Test.YteponmlhdijdkaaG
namespace Go.Proofs.Yteponmlhdijdkaa
open Go.RowKit
set_option maxRecDepth 100000
attribute [local go_sem] not_any

def nonceP (x y : Nat) : List Nat := setB (setB (setB (zeros 12) 0 x 4) 4 (y % 4294967296) 4) 8 (y / 4294967296 % 4294967296) 4
theorem nonceP_length (x y : Nat) : (nonceP x y).length = 12 := by rw [nonceP, setB_length, setB_length, setB_length, zeros_length]
theorem zeros_lt (n : Nat) : Lt 256 (zeros n) := lt_replicate (by omega) n
theorem nonceP_lt (x y : Nat) : Lt 256 (nonceP x y) := setB_lt (setB_lt (setB_lt (zeros_lt 12) _ _ _) _ _ _) _ _ _

set_option maxHeartbeats 1000000 in
theorem nonce_any (x y : Nat) (w : World) (hy : y < 18446744073709551616) :
    Calls Try.prog 18 #[.int .u32 (x : Int), .int .u64 (y : Int)] w fun e w' => e = .returned (.string (txt (nonceP x y))) ∧ Below w.heap.size w w' := by
  obtain ⟨y0, hy0⟩ : ∃ v, v = y % 4294967296 := ⟨_, rfl⟩
  obtain ⟨y1, hy1⟩ : ∃ v, v = y / 4294967296 % 4294967296 := ⟨_, rfl⟩
  have e0 : IntKind.u32.wrap (y : Int) = (y0 : Int) := by rw [wrap32, hy0]
  have e0' : (y : Int) % 4294967296 = (y0 : Int) := by omega
  have e1 : (y : Int) / 4294967296 % 4294967296 = (y1 : Int) := by omega
  have e1' : (y : Int) / 4294967296 = (y1 : Int) := by omega
  have e1'' : IntKind.u32.wrap (y1 : Int) = (y1 : Int) := by rw [IntKind.wrap_u32]; omega
  have HP : Shy (nonceP x y = setB (setB (setB (zeros 12) 0 x 4) 4 y0 4) 8 y1 4) := ⟨by rw [nonceP, hy0, hy1]⟩
  have HB1 : Shy (y1 < 4294967296) := ⟨by omega⟩
  clear hy0 hy1
  have HL : Shy ((nonceP x y).length = 12) := ⟨nonceP_length x y⟩
  go_enter Try.func18, Try.ntmps18
  go_wp2_with fail
  generalize hW : World.alloc w _ = W
  have h1 : W.heap[w.heap.size]? = some (row8 62 (zeros 12)) := by rw [← hW]; exact heap_alloc_new _ _
  have h3 : Below w.heap.size w W := by rw [← hW]; exact (Below.refl _ _).alloc (Nat.le_refl _) _
  have H3 := hide1 h3
  clear hW h3
  go_at_call 26
  refine (put_any (zeros 12) x w.heap.size 0 12 12 62 W h1 (by omega) (by decide)).mono ?_
  rintro e w1 ⟨rfl, hw1⟩
  have h2 : w1.heap[w.heap.size]? = some (row8 62 (setB (zeros 12) 0 x 4)) := by rw [hw1]; exact setRow_heap _ _ _ _ _ _ h1
  have b1 : Below w.heap.size w w1 := by rw [hw1]; exact Below.setRow' H3.out (Nat.le_refl _) _
  have B1 := hide1 b1
  clear hw1 h1 b1
  go_wp2_with fail
  go_at_call 26
  refine (put_any _ y0 w.heap.size 4 8 8 62 w1 h2 (by omega) (by rw [setB_length]; decide)).mono ?_
  rintro e w2 ⟨rfl, hw2⟩
  have h4 : w2.heap[w.heap.size]? = some (row8 62 (setB (setB (zeros 12) 0 x 4) 4 y0 4)) := by rw [hw2]; exact setRow_heap _ _ _ _ _ _ h2
  have b2 : Below w.heap.size w w2 := by rw [hw2]; exact Below.setRow' B1.out (Nat.le_refl _) _
  have B2 := hide1 b2
  clear hw2 h2 b2
  go_wp2_with fail
  go_at_call 26
  refine (put_any _ y1 w.heap.size 8 4 4 62 w2 h4 (by omega) (by rw [setB_length, setB_length]; decide)).mono ?_
  rintro e w3 ⟨rfl, hw3⟩
  have h5 : w3.heap[w.heap.size]? = some (row8 62 (nonceP x y)) := by rw [hw3, HP.out]; exact setRow_heap _ _ _ _ _ _ h4
  have b3 : Below w.heap.size w w3 := by rw [hw3]; exact Below.setRow' B2.out (Nat.le_refl _) _
  have B3 := hide1 b3
  have hcv := conv_row (cap := 12) h5
  rw [HL.out] at hcv
  clear hw3 h4 b3 h5
  obtain ⟨tx, htx⟩ : ∃ tx, tx = txt (nonceP x y) := ⟨_, rfl⟩
  rw [← htx] at hcv
  have HX : Shy (tx = txt (nonceP x y)) := ⟨htx⟩
  clear htx
  go_wp2
  go_ret
  exact ⟨by rw [← HX.out]; rfl, B3.out⟩

/- bytes as a number, from the place top down -/
def hiL (l : List Nat) (top : Nat) : Nat → Nat
  | 0 => 0
  | k + 1 => 256 * hiL l top k + at0 l (top - k)
theorem hiL_lt {l : List Nat} (h : Lt 256 l) (top : Nat) : ∀ k, hiL l top k < 256 ^ k
  | 0 => by simp [hiL]
  | k + 1 => by
    have h1 := hiL_lt h top k
    have h2 := h.at (by omega) (top - k)
    rw [hiL, Nat.pow_succ]
    omega
theorem hiL_small {l : List Nat} (h : Lt 256 l) (top : Nat) {k : Nat} (hk : k < 8) : hiL l top k < 72057594037927936 :=
  Nat.lt_of_lt_of_le (hiL_lt h top k) (Nat.pow_le_pow_right (n := 256) (by omega) (show k ≤ 7 by omega))

theorem hi_lane {x y : Nat} (hx : x < 4294967296) : hiL (nonceP x y) 3 4 = x := by
  show 256 * (256 * (256 * (256 * 0 + x / 16777216 % 256) + x / 65536 % 256) + x / 256 % 256) + x / 1 % 256 = x
  omega
theorem four_bytes {z b : Nat} (hz : z < 4294967296) : 256 * (256 * (256 * (256 * b + z / 16777216 % 256) + z / 65536 % 256) + z / 256 % 256) + z / 1 % 256 = 4294967296 * b + z := by omega
theorem hi_number {x y : Nat} (hy : y < 18446744073709551616) : hiL (nonceP x y) 11 8 = y := by
  have e1 := four_bytes (z := y / 4294967296 % 4294967296) (b := 0) (by omega)
  have e2 := four_bytes (z := y % 4294967296) (b := y / 4294967296 % 4294967296) (by omega)
  generalize hz : y / 4294967296 % 4294967296 = z1 at *
  generalize hz0 : y % 4294967296 = z0 at *
  show 256 * (256 * (256 * (256 * (256 * (256 * (256 * (256 * 0 + (y / 4294967296 % 4294967296) / 16777216 % 256) + (y / 4294967296 % 4294967296) / 65536 % 256) + (y / 4294967296 % 4294967296) / 256 % 256) + (y / 4294967296 % 4294967296) / 1 % 256) + (y % 4294967296) / 16777216 % 256) + (y % 4294967296) / 65536 % 256) + (y % 4294967296) / 256 % 256) + (y % 4294967296) / 1 % 256 = y
  rw [hz, hz0, e1, Nat.mul_zero, Nat.zero_add, e2]
  omega

set_option maxHeartbeats 2000000 in
theorem nonces_all (W : World) (x y : Nat) (hx : x < 4294967296) (hy : y < 18446744073709551616) :
    Calls Try.prog 7 #[.int .u32 (x : Int), .int .u64 (y : Int)] W fun e w' => e = .returned (.bool true) ∧ Below W.heap.size W w' := by
  have k1 := fun w => hide1 (nonce_any x y w hy)
  have HA : Shy (hiL (nonceP x y) 3 4 = x) := ⟨hi_lane hx⟩
  have HY : Shy (hiL (nonceP x y) 11 8 = y) := ⟨hi_number hy⟩
  have HT : Shy (nums (txt (nonceP x y)) = nonceP x y) := ⟨nums_txt (nonceP_lt x y)⟩
  have hsz : (txt (nonceP x y)).size = 12 := by rw [nums_size HT.out, nonceP_length]
  have HLt : Shy (Lt 256 (nonceP x y)) := ⟨nonceP_lt x y⟩
  generalize txt (nonceP x y) = s at *
  generalize nonceP x y = l at *
  have hxi : (x : Int) < 4294967296 := by omega
  clear hx hy
  go_enter Try.func7, Try.ntmps7
  go_wp2_with fail
  go_at_call 18
  refine (k1 _).out.mono ?_
  rintro e w1 ⟨rfl, hb1⟩
  have B1 := hide1 hb1
  clear hb1 k1
  go_wp2
  go_loop [6, 8] (fun v6 v8 => ∃ k : Nat, k ≤ 4 ∧ v8 = .int .i64 (3 - (k : Int)) ∧ v6 = .int .u64 (hiL l 3 k : Nat)) (fun _ v8 => (intOf v8 + 1).toNat)
  case atStart => exact ⟨0, Nat.zero_le _, rfl, rfl⟩
  case round =>
    obtain ⟨k, hk, rfl, rfl⟩ := hrel
    by_cases hlt : k < 4
    · obtain ⟨m, hm⟩ : ∃ m, m = 3 - k := ⟨_, rfl⟩
      have em : 3 - (k : Int) = (m : Int) := by omega
      rw [em]
      have HM : Shy (m = 3 - k) := ⟨hm⟩
      have hm12 : (m : Int) < 12 := by omega
      have hix := fun w => run_index s m (by omega) w
      rw [HT.out] at hix
      have HN : Shy (hiL l 3 (k + 1) = 256 * hiL l 3 k + at0 l m) := ⟨by rw [hiL, hm]⟩
      have b1 := hiL_small HLt.out 3 (k := k) (by omega)
      have b2 := HLt.out.at (by omega) m
      generalize hiL l 3 k = v at *
      generalize at0 l m = u at *
      clear hm em
      go_wp2
      go_round
      case rel => exact ⟨k + 1, by omega, by have := HM.out; congr 1; omega, by rw [HN.out]; congr 1⟩
      case measure => simp [intOf]
    · have : k = 4 := by omega
      subst this
      have e4 : 3 - ((4 : Nat) : Int) = -1 := rfl
      rw [e4, HA.out]
      go_wp2
      go_loop [7, 9] (fun v7 v9 => ∃ k : Nat, k ≤ 8 ∧ v9 = .int .i64 (11 - (k : Int)) ∧ v7 = .int .u64 (hiL l 11 k : Nat)) (fun _ v9 => (intOf v9 - 3).toNat)
      case atStart => exact ⟨0, Nat.zero_le _, rfl, rfl⟩
      case round =>
        obtain ⟨k, hk, rfl, rfl⟩ := hrel
        by_cases hlt : k < 8
        · obtain ⟨m, hm⟩ : ∃ m, m = 11 - k := ⟨_, rfl⟩
          have em : 11 - (k : Int) = (m : Int) := by omega
          rw [em]
          have HM : Shy (m = 11 - k) := ⟨hm⟩
          have hm12 : (m : Int) < 12 := by omega
          have hm4 : (4 : Int) ≤ (m : Int) := by omega
          have hix := fun w => run_index s m (by omega) w
          rw [HT.out] at hix
          have HN : Shy (hiL l 11 (k + 1) = 256 * hiL l 11 k + at0 l m) := ⟨by rw [hiL, hm]⟩
          have b1 := hiL_small HLt.out 11 (k := k) (by omega)
          have b2 := HLt.out.at (by omega) m
          generalize hiL l 11 k = v at *
          generalize at0 l m = u at *
          clear hm em
          go_wp2
          go_round
          case rel => exact ⟨k + 1, by omega, by have := HM.out; congr 1; omega, by rw [HN.out]; congr 1⟩
          case measure => simp [intOf]; omega
        · have : k = 8 := by omega
          subst this
          have e4 : 11 - ((8 : Nat) : Int) = 3 := rfl
          rw [e4, HY.out]
          go_wp2_with (go_at_call 11; refine (awake_any _).mono ?_; rintro e w' ⟨rfl, rfl⟩)
          go_ret
          exact ⟨rfl, B1.out⟩
end Go.Proofs.Yteponmlhdijdkaa
