/- The document's Seed. -/
import Derived.Test.YtdkakodlkbkhnaaDoorM
namespace Go.Proofs.YtdkakodlkbkhnaaDoor
open Go.RowKit
set_option maxRecDepth 100000
attribute [local go_sem] not_any mf_any

theorem sdTo_end {j : Nat} {l : List Nat} (h : j = 4 ∨ l.length ≤ j) : sdTo (8 * j) l = sdP l := by
  unfold sdTo sdP
  apply List.map_congr_left
  intro i hi
  have hi' : i < 32 := by simpa using hi
  by_cases h1 : i < 8 * j
  · rw [if_pos h1]
  · rw [if_neg h1]
    have h2 : at0 l (i / 8) = 0 := by
      unfold at0
      rw [List.getElem?_eq_none (by omega)]
      rfl
    unfold sdB
    rw [h2]
    simp

theorem sdB_at {j q : Nat} (l : List Nat) (hq : q < 8) : sdB l (8 * j + q) = at0 l j / 2 ^ (8 * q) % 256 := by
  unfold sdB
  rw [show (8 * j + q) / 8 = j by omega, show (8 * j + q) % 8 = q by omega]

set_option maxHeartbeats 4000000 in
theorem rseed_any (m c : Nat) (a : Option Addr) (l : List Nat) (w : World) (ha : Nl w m a l) (hs : Small l) (hm : m ≤ 1048576) :
    Calls Tryd.prog 23 #[.slice a m c] w fun e w' => e = .returned (arr8 (sdP l)) ∧ Below w.heap.size w w' := by
  have HA := hide1 ha
  have HS := hide1 hs
  have HLen : Shy (l.length = m) := ⟨ha.len⟩
  clear ha hs
  go_enter Tryd.func23, Tryd.ntmps23
  go_wp2
  generalize hX : World.alloc (World.alloc w _) _ = X
  have x0 : X.heap[w.heap.size]? = some (row8 51 (zeros 32)) := by rw [← hX]; exact heap_alloc2_old _ _ _
  have x1 : X.heap[w.heap.size + 1]? = some (row8 51 (zeros 32)) := by rw [← hX]; exact heap_alloc2_new _ _ _
  have xb : Below w.heap.size w X := by rw [← hX]; exact ((Below.refl _ _).alloc (Nat.le_refl _) _).alloc (by simp) _
  have X0 := hide1 x0
  have X1 := hide1 x1
  have XB := hide1 xb
  clear hX x0 x1 xb
  go_loopw [4] (fun i wr => ∃ j : Nat, j ≤ 4 ∧ j ≤ m ∧ i = .int .i64 (j : Int) ∧ wr.heap[w.heap.size + 1]? = some (row8 51 (sdTo (8 * j) l)) ∧ Below (w.heap.size + 1) X wr) (fun i _ => 4 - (intOf i).toNat)
  case atStart => exact ⟨0, Nat.zero_le _, Nat.zero_le _, rfl, by rw [Nat.mul_zero, sdTo_zero]; exact X1.out, Below.refl _ _⟩
  case round =>
    obtain ⟨j, hj, hjm, rfl, hrow, hbe⟩ := hrel
    by_cases hend : j = 4 ∨ m ≤ j
    · rw [sdTo_end (by rw [HLen.out]; exact hend)] at hrow
      have HR := hide1 hrow
      have HE := hide1 hbe
      have r0 := (hbe.block _ (by omega)).trans X0.out
      have R0 := hide1 r0
      have HPz : Shy ((u8s (sdP l)).toArray.size = 32) := ⟨by simp [u8s, sdP_length]⟩
      clear hrow hbe r0
      rcases hend with rfl | hmj
      · rw [show ((4 : Nat) : Int) = 4 from rfl]
        go_wp2_with (first | (refine wpList_load_row rfl 51 (.tmp 3) rfl (w.heap.size + 1) rfl 51 (u8s (sdP l)).toArray (0, 0) _ HR.out Tryd.underlying51 rfl (by rw [HPz.out]; kernel_rfl) ?_) | (refine wpList_store_own rfl 51 (.tmp 2) (.tmp 35) rfl w.heap.size rfl (u8s (sdP l)).toArray rfl 51 _ R0.out (by rw [HPz.out]; kernel_rfl) (by rw [HPz.out, zeros_size]) (all_one (u8s_one _)) ?_) | fail)
        refine ret_seed1 Tryd.results23 w.heap.size (sdP l) (sdP_length l) rfl (setRow_heap _ _ _ _ _ _ R0.out) rfl ⟨rfl, ?_⟩
        exact Below.setRow' (XB.out.trans (HE.out.mono (by omega))) (Nat.le_refl _) _
      · have : j = m := by omega
        subst this
        by_cases h4 : j = 4
        · subst h4
          rw [show ((4 : Nat) : Int) = 4 from rfl]
          go_wp2_with (first | (refine wpList_load_row rfl 51 (.tmp 3) rfl (w.heap.size + 1) rfl 51 (u8s (sdP l)).toArray (0, 0) _ HR.out Tryd.underlying51 rfl (by rw [HPz.out]; kernel_rfl) ?_) | (refine wpList_store_own rfl 51 (.tmp 2) (.tmp 35) rfl w.heap.size rfl (u8s (sdP l)).toArray rfl 51 _ R0.out (by rw [HPz.out]; kernel_rfl) (by rw [HPz.out, zeros_size]) (all_one (u8s_one _)) ?_) | fail)
          refine ret_seed1 Tryd.results23 w.heap.size (sdP l) (sdP_length l) rfl (setRow_heap _ _ _ _ _ _ R0.out) rfl ⟨rfl, ?_⟩
          exact Below.setRow' (XB.out.trans (HE.out.mono (by omega))) (Nat.le_refl _) _
        · have hj4 : j < 4 := by omega
          have hj4i : (j : Int) < 4 := by omega
          clear hj hjm hmj h4
          go_wp2_with (first | (refine wpList_load_row rfl 51 (.tmp 3) rfl (w.heap.size + 1) rfl 51 (u8s (sdP l)).toArray (0, 0) _ HR.out Tryd.underlying51 rfl (by rw [HPz.out]; kernel_rfl) ?_) | (refine wpList_store_own rfl 51 (.tmp 2) (.tmp 35) rfl w.heap.size rfl (u8s (sdP l)).toArray rfl 51 _ R0.out (by rw [HPz.out]; kernel_rfl) (by rw [HPz.out, zeros_size]) (all_one (u8s_one _)) ?_) | fail)
          refine ret_seed1 Tryd.results23 w.heap.size (sdP l) (sdP_length l) rfl (setRow_heap _ _ _ _ _ _ R0.out) rfl ⟨rfl, ?_⟩
          exact Below.setRow' (XB.out.trans (HE.out.mono (by omega))) (Nat.le_refl _) _
    · have hj4 : j < 4 := by omega
      have hj4i : (j : Int) < 4 := by omega
      have hjm' : j < m := by omega
      obtain ⟨ga, oa, rfl, hca⟩ := (HA.out.next (XB.out.trans (hbe.mono (by omega)))).val hjm'
      have hxl := HS.out.at0 j
      have HSB : Shy (∀ q, q < 8 → sdB l (8 * j + q) = at0 l j / 2 ^ (8 * q) % 256) := ⟨fun q hq => sdB_at l hq⟩
      generalize at0 l j = x at *
      have HXL := hide1 hxl
      have HR := hide1 hrow
      have HE := hide1 hbe
      clear hrow hbe hend hj hjm hxl
      obtain ⟨Z, hZ⟩ : ∃ Z, Z = wr := ⟨_, rfl⟩
      rw [← hZ] at hca HR HE ⊢
      clear hZ
      go_wp2
      go_loopw [5, 6] (fun y q wr => ∃ p : Nat, p ≤ 8 ∧ q = .int .i64 (p : Int) ∧ y = .int .u64 ((x / 2 ^ (8 * p) : Nat) : Int) ∧ wr.heap[w.heap.size + 1]? = some (row8 51 (sdTo (8 * j + p) l)) ∧ Below (w.heap.size + 1) X wr) (fun _ q _ => 8 - (intOf q).toNat)
      case atStart => exact ⟨0, Nat.zero_le _, rfl, by simp, by rw [Nat.add_zero]; exact HR.out, HE.out⟩
      case round =>
        obtain ⟨p, hp, rfl, rfl, hrow, hbe⟩ := hrel
        by_cases hlt : p < 8
        · have hpi : (p : Int) < 8 := by omega
          obtain ⟨z, hz⟩ : ∃ z, z = 8 * j + p := ⟨_, rfl⟩
          obtain ⟨u, hu⟩ : ∃ u, u = 8 * j := ⟨_, rfl⟩
          obtain ⟨y, hy⟩ : ∃ y, y = x / 2 ^ (8 * p) := ⟨_, rfl⟩
          have hb := HSB.out p hlt
          rw [← hz] at hrow hb
          rw [← hy] at hb ⊢
          have hz32 : z < 32 := by omega
          have hu1 : IntKind.i64.wrap (8 * (j : Int)) = (u : Int) := by rw [IntKind.wrap_i64]; omega
          have hz1 : IntKind.i64.wrap ((u : Int) + (p : Int)) = (z : Int) := by rw [IntKind.wrap_i64]; omega
          have hbc := cell8 hrow (j := z) (by rw [sdTo_length]; exact hz32)
          have hbf : wr.frozen? ⟨w.heap.size + 1, z, none⟩ = false := frozen_of_row wr _ z _ 51 hrow
          have HST : Shy ((sdTo z l).set z (sdB l z) = sdTo (8 * j + (p + 1)) l) := ⟨by rw [sdTo_step l, hz]; rfl⟩
          have HB : Shy (sdB l z = y % 256) := ⟨hb⟩
          have HY : Shy (y / 256 = x / 2 ^ (8 * (p + 1))) := ⟨by rw [hy, Nat.div_div_eq_div_mul, show 2 ^ (8 * (p + 1)) = 2 ^ (8 * p) * 256 by rw [show 8 * (p + 1) = 8 * p + 8 by omega, Nat.pow_add]]⟩
          have hyl : y < 18446744073709551616 := by rw [hy]; exact Nat.lt_of_le_of_lt (Nat.div_le_self _ _) HXL.out
          have HRr := hide1 hrow
          have HEe := hide1 hbe
          clear hrow hbe hz hu hy hb HR HE
          go_wp2
          have hv : ((y : Int) % 256) = ((sdB l z : Nat) : Int) := by rw [HB.out]; rfl
          refine ⟨⟨p + 1, by omega, by go_num, ?_, ?_, HEe.out.setCell (Nat.le_refl _) _⟩, by simp [intOf]; omega⟩
          · rw [← HY.out]; rfl
          · rw [hv, ← HST.out]; exact set8 HRr.out
        · have : p = 8 := by omega
          subst this
          have HRr := hide1 hrow
          have HEe := hide1 hbe
          clear hrow hbe HR HE
          rw [show ((8 : Nat) : Int) = 8 from rfl]
          go_wp2
          exact ⟨⟨j + 1, by omega, by omega, by go_num, HRr.out, HEe.out⟩, by simp [intOf]; omega⟩

end Go.Proofs.YtdkakodlkbkhnaaDoor
