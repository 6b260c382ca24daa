/- sha.Sum, the example 'awake', Low. -/
import Derived.Test.YtjcfllidandeiaaDoorU
namespace Go.Proofs.YtjcfllidandeiaaDoor
open Go.RowKit
set_option maxRecDepth 100000
attribute [local go_sem] not_any

theorem zero35 (w : World) : (zeroValue 35).run Tryd.prog w = .ok (.agg (scells (zeros 8) (zeros 64) 0).toArray) w :=
  (zero_of_info (P := Tryd.prog) (n := 73) (by kernel_rfl)).1 w

theorem sumP_length (l : List Nat) : (sumP l).length = 32 := by
  unfold sumP
  split
  · exact dig_length (addW_length _ _)
  · exact dig_length (addW_length _ _)

theorem sum_nil (w : World) : Calls Tryd.prog 14 #[.pointer none] w fun e w' => e = .returned (arr8 (zeros 32)) ∧ Below w.heap.size w w' := by
  go_enter Tryd.func14, Tryd.ntmps14
  go_wp2_with (first | (refine wpList_store_own rfl 24 (.tmp 2) (.tmp 10) rfl w.heap.size rfl (u8s (zeros 32)).toArray rfl 24 _ (heap_alloc_new _ _) (by kernel_rfl) rfl (all_one (u8s_one _)) ?_) | fail)
  refine ret_row Tryd.results14 w.heap.size 24 (u8s (zeros 32)).toArray rfl (setRow_heap _ _ _ _ _ _ (heap_alloc_new _ _)) Tryd.underlying24 (by kernel_rfl) rfl ⟨rfl, ?_⟩
  exact Below.setRow' ((Below.refl _ _).alloc (Nat.le_refl _) _) (Nat.le_refl _) _

theorem sums_new (w : World) : Sums (w.alloc (.cells (scells (zeros 8) (zeros 64) 0).toArray 35 (0, 0))) w.heap.size (grownP []) (restP []) ([] : List Nat).length :=
  ⟨heap_alloc_new _ _, rfl, rfl⟩

set_option maxHeartbeats 2000000 in
theorem shaSum_any (s : ByteArray) (w : World) (hL : Laid w) (hz : s.size < 144115188075855872) :
    Calls Tryd.prog 9 #[.string s] w fun e w' => e = .returned (arr8 (sumP (nums s))) ∧ Below w.heap.size w w' := by
  have HL := hide1 hL
  have hz35 := zero35
  clear hL
  go_enter Tryd.func9, Tryd.ntmps9
  go_upto_region 2 with (fail)
  generalize hW : World.alloc (World.alloc w _) _ = W
  have h1 : W.heap[w.heap.size]? = some (row8 24 (zeros 32)) := by rw [← hW]; exact heap_alloc2_old _ _ _
  have h2 : Sums W (w.heap.size + 1) (grownP []) (restP []) ([] : List Nat).length := ⟨by rw [← hW]; exact heap_alloc2_new _ _ _, rfl, rfl⟩
  have h3 : Below w.heap.size w W := by rw [← hW]; exact ((Below.refl _ _).alloc (Nat.le_refl _) _).alloc (by simp) _
  have h4 : Laid W := HL.out.below h3 HL.out.two
  have hWr := hide1 (write_any (w.heap.size + 1) [] s W h4 (by have := HL.out.two; omega) h2 lt_nil (by simp; omega))
  rw [List.nil_append] at hWr
  have H1 := hide1 h1
  have H3 := hide1 h3
  have H4 := hide1 h4
  clear hW h1 h2 h3 h4
  go_wp2_with fail
  refine hWr.out.mono ?_
  rintro e w1 ⟨rfl, hS1, hB1⟩
  have k1 : Below (w.heap.size + 1) W w1 := hB1.below (Nat.le_refl _) (by have := lt_heap H1.out; omega)
  have hSm := hide1 (sum_any (w.heap.size + 1) (nums s) w1 (H4.out.below k1 (by have := HL.out.two; omega)) (by have := HL.out.two; omega) hS1 (nums_lt s) (by rw [nums_length]; exact hz))
  have K1 := hide1 k1
  unfold arr8 at hSm
  clear hS1 hB1 k1 hWr
  go_wp2_with fail
  refine hSm.out.mono ?_
  rintro e w2 ⟨rfl, hb2⟩
  have r2 : w2.heap[w.heap.size]? = some (row8 24 (zeros 32)) := (hb2.block _ (by have := K1.out.size; have := lt_heap H1.out; omega)).trans ((K1.out.block _ (by omega)).trans H1.out)
  have R2 := hide1 r2
  have B2 : Hid (Below w.heap.size w w2) := H3.out.trans ((K1.out.mono (by omega)).trans (hb2.mono (Nat.le_trans H3.out.size K1.out.size)))
  clear r2 hb2 hSm
  have e32 : (u8s (sumP (nums s))).toArray.size = 32 := by simp [u8s, sumP_length]
  have E32 := hide1 e32
  clear e32
  go_wp2_with (first | (refine wpList_store_own rfl 24 (.tmp 2) (.tmp 6) rfl w.heap.size rfl (u8s (sumP (nums s))).toArray rfl 24 _ R2.out (by rw [E32.out]; kernel_rfl) (by rw [E32.out]; rfl) (all_one (u8s_one _)) ?_) | fail)
  refine ret_row Tryd.results9 w.heap.size 24 (u8s (sumP (nums s))).toArray rfl (setRow_heap _ _ _ _ _ _ R2.out) Tryd.underlying24 (by rw [E32.out]; kernel_rfl) rfl ⟨rfl, ?_⟩
  exact Below.setRow' B2.out (Nat.le_refl _) _

def abcT : ByteArray := { data := #[97, 98, 99] }
theorem abc_nums : nums abcT = [97, 98, 99] := by decide +kernel

set_option maxHeartbeats 2000000 in
theorem awake_any (w : World) (hL : Laid w) :
    Calls Tryd.prog 8 #[] w fun e w' => e = .returned (.bool true) ∧ Below w.heap.size w w' := by
  have hS := hide1 (shaSum_any abcT w hL (by decide))
  rw [abc_nums, abc_sum] at hS
  unfold arr8 at hS
  clear hL
  go_enter Tryd.func8, Tryd.ntmps8
  go_wp2_with fail
  refine hS.out.mono ?_
  rintro e w1 ⟨rfl, hb1⟩
  clear hS
  go_upto_region 2 with (first | (refine wpList_store_own rfl 24 (.tmp 1) (.tmp 2) rfl w1.heap.size rfl _ rfl 24 _ (heap_alloc_new _ _) (by kernel_rfl) rfl (all_one (u8s_one _)) ?_) | fail)
  generalize hZ : World.setRow _ _ _ = Z
  have z1 : Z.heap[w1.heap.size]? = some (row8 24 [186, 120, 22, 191, 143, 1, 207, 234, 65, 65, 64, 222, 93, 174, 34, 35, 176, 3, 97, 163, 150, 23, 122, 156, 180, 16, 255, 97, 242, 0, 21, 173]) := by rw [← hZ]; exact setRow_heap _ _ _ _ _ _ (heap_alloc_new _ _)
  have z2 : Below w.heap.size w Z := by rw [← hZ]; exact Below.setRow' (hb1.alloc hb1.size _) hb1.size _
  have c0 := cell8 z1 (j := 0) (by decide)
  have c1 := cell8 z1 (j := 1) (by decide)
  have c2 := cell8 z1 (j := 2) (by decide)
  have c3 := cell8 z1 (j := 3) (by decide)
  have c31 := cell8 z1 (j := 31) (by decide)
  have Z2 := hide1 z2
  clear hZ z1 z2 hb1
  simp only [at0, List.getElem?_cons_zero, List.getElem?_cons_succ, Option.getD_some] at c0 c1 c2 c3 c31
  go_wp2
  go_ret
  exact ⟨rfl, Z2.out⟩

/- the first eight bytes as a number, the lowest first -/
def lowTo (l : List Nat) : Nat → Nat
  | 0 => 0
  | k + 1 => lowTo l k + at0 l k * 2 ^ (8 * k)
def hiTo (l : List Nat) : Nat → Nat
  | 0 => 0
  | j + 1 => hiTo l j * 256 + at0 l (7 - j)
theorem hi_low (l : List Nat) : hiTo l 8 = lowTo l 8 := by
  simp only [hiTo, lowTo, Nat.reduceSub, Nat.reduceMul, Nat.reducePow]
  omega
theorem lowTo_lt {l : List Nat} (h : Lt 256 l) : ∀ k, lowTo l k < 2 ^ (8 * k)
  | 0 => by simp [lowTo]
  | k + 1 => by
    have := lowTo_lt h k
    have h2 := h.at (by omega) k
    rw [lowTo, show 8 * (k + 1) = 8 * k + 8 by omega, Nat.pow_add]
    have : at0 l k * 2 ^ (8 * k) ≤ 255 * 2 ^ (8 * k) := Nat.mul_le_mul_right _ (by omega)
    omega
theorem hiTo_lt {l : List Nat} (h : Lt 256 l) : ∀ k, hiTo l k < 2 ^ (8 * k)
  | 0 => by simp [hiTo]
  | k + 1 => by
    have := hiTo_lt h k
    have h2 := h.at (by omega) (7 - k)
    rw [hiTo, show 8 * (k + 1) = 8 * k + 8 by omega, Nat.pow_add]
    omega

theorem or_int {x y p : Nat} (hx : x < 2 ^ p) (hy : y < 256) (hp : p ≤ 56) : bits .or .u64 (x : Int) (IntKind.u64.wrap ((y : Int) * 2 ^ p)) = ((x + y * 2 ^ p : Nat) : Int) := by
  have h56 : 2 ^ p ≤ 2 ^ 56 := Nat.pow_le_pow_right (by omega) hp
  have h1 : y * 2 ^ p ≤ 255 * 2 ^ p := Nat.mul_le_mul_right _ (by omega)
  have h2 : y * 2 ^ p < 18446744073709551616 := by omega
  have e : (y : Int) * 2 ^ p = ((y * 2 ^ p : Nat) : Int) := by rw [Int.natCast_mul, Int.natCast_pow]; rfl
  have e2 : IntKind.u64.wrap ((y * 2 ^ p : Nat) : Int) = ((y * 2 ^ p : Nat) : Int) := by rw [IntKind.wrap_u64]; omega
  have e3 : x ||| y * 2 ^ p = x + y * 2 ^ p := by
    rw [Nat.or_comm, Nat.mul_comm, ← Nat.two_pow_add_eq_or_of_lt hx, Nat.add_comm]
  rw [e, e2, u64_or_nat _ _ (by omega) h2, e3]

set_option maxHeartbeats 2000000 in
theorem low_any (l : List Nat) (w : World) (hl : l.length = 32) (ht : Lt 256 l) :
    Calls Tryd.prog 11 #[arr8 l] w fun e w' => e = .returned (.int .u64 (lowTo l 8 : Nat)) ∧ Below w.heap.size w w' := by
  have Hl := hide1 hl
  have Ht := hide1 ht
  clear hl ht
  unfold arr8
  go_enter Tryd.func11, Tryd.ntmps11
  go_upto_block 0 with (fail)
  generalize hW : World.alloc w _ = W
  have h1 : W.heap[w.heap.size]? = some (row8 24 l) := by rw [← hW]; exact heap_alloc_new _ _
  have h3 : Below w.heap.size w W := by rw [← hW]; exact (Below.refl _ _).alloc (Nat.le_refl _) _
  have H1 := hide1 h1
  have H3 := hide1 h3
  clear hW h1 h3
  go_wp2
  go_loop [3, 5] (fun n i => ∃ k : Nat, k ≤ 8 ∧ i = .int .i64 k ∧ n = .int .u64 (lowTo l k : Nat)) (fun _ i => 8 - (intOf i).toNat)
  case atStart => exact ⟨0, Nat.zero_le _, rfl, rfl⟩
  case round =>
    obtain ⟨k, hk, rfl, rfl⟩ := hrel
    by_cases hlt : k < 8
    · have c := cell8 H1.out (j := k) (by rw [Hl.out]; omega)
      have HN : Hid (lowTo l (k + 1) = lowTo l k + at0 l k * 2 ^ (8 * k)) := rfl
      have b1 := lowTo_lt Ht.out k
      have b2 := Ht.out.at (by omega) k
      generalize lowTo l k = x at HN b1
      generalize at0 l k = y at HN b2 c
      obtain ⟨p, hp⟩ : ∃ p, p = 8 * k := ⟨_, rfl⟩
      have e8 : 8 * (k : Int) = (p : Int) := by omega
      have hp64 : (p : Int) < 64 := by omega
      rw [← hp] at HN b1
      have HP := hide1 hp
      have HB := hide1 b1
      clear hp b1
      go_wp2
      go_round
      case rel => exact ⟨k + 1, by omega, by go_num, by rw [or_int HB.out b2 (by omega), HN.out]⟩
      case measure => simp [intOf]; omega
    · have : k = 8 := by omega
      subst this
      go_wp2
      go_ret
      exact ⟨rfl, H3.out⟩

set_option maxHeartbeats 2000000 in
theorem rlow_any (l : List Nat) (w : World) (hl : l.length = 32) (ht : Lt 256 l) :
    Calls Tryd.prog 12 #[arr8 l] w fun e w' => e = .returned (.int .u64 (lowTo l 8 : Nat)) ∧ Below w.heap.size w w' := by
  have Hl := hide1 hl
  have Ht := hide1 ht
  clear hl ht
  unfold arr8
  rw [← hi_low]
  go_enter Tryd.func12, Tryd.ntmps12
  go_upto_block 0 with (fail)
  generalize hW : World.alloc w _ = W
  have h1 : W.heap[w.heap.size]? = some (row8 24 l) := by rw [← hW]; exact heap_alloc_new _ _
  have h3 : Below w.heap.size w W := by rw [← hW]; exact (Below.refl _ _).alloc (Nat.le_refl _) _
  have H1 := hide1 h1
  have H3 := hide1 h3
  clear hW h1 h3
  go_wp2
  go_loop [3, 4] (fun n i => ∃ k : Nat, k ≤ 8 ∧ i = .int .i64 (7 - (k : Int)) ∧ n = .int .u64 (hiTo l k : Nat)) (fun _ i => (intOf i + 1).toNat)
  case atStart => exact ⟨0, Nat.zero_le _, rfl, rfl⟩
  case round =>
    obtain ⟨k, hk, rfl, rfl⟩ := hrel
    by_cases hlt : k < 8
    · have c := cell8 H1.out (j := 7 - k) (by rw [Hl.out]; omega)
      have HN : Hid (hiTo l (k + 1) = hiTo l k * 256 + at0 l (7 - k)) := rfl
      have b1 := hiTo_lt Ht.out k
      have b2 := Ht.out.at (by omega) (7 - k)
      have b3 : 2 ^ (8 * k) ≤ 2 ^ 56 := Nat.pow_le_pow_right (by omega) (by omega)
      have b4 : hiTo l k < 72057594037927936 := Nat.lt_of_lt_of_le b1 b3
      generalize hiTo l k = x at HN b4
      generalize at0 l (7 - k) = y at HN b2 c
      obtain ⟨p, hp⟩ : ∃ p, p = 7 - k := ⟨_, rfl⟩
      have e8 : 7 - (k : Int) = (p : Int) := by omega
      have hp8 : (p : Int) < 32 := by omega
      rw [← hp] at c
      rw [e8]
      have HP := hide1 hp
      clear hp b1 b3 e8
      go_wp2
      go_round
      case rel => exact ⟨k + 1, by omega, by have := HP.out; congr 1; omega, by rw [HN.out]; congr 1⟩
      case measure => simp [intOf]
    · have : k = 8 := by omega
      subst this
      go_wp2
      go_ret
      exact ⟨rfl, H3.out⟩

end Go.Proofs.YtjcfllidandeiaaDoor
