/- Tagged, the program's and the document's. -/
import Derived.Test.YtjcfllidandeiaaDoorOf
namespace Go.Proofs.YtjcfllidandeiaaDoor
open Go.RowKit
set_option maxRecDepth 100000
attribute [local go_sem] not_any

def tagTo (t : ByteArray) (L : List ByteArray) : Nat → List Nat
  | 0 => measP t
  | k + 1 => tagTo t L k ++ measP (L.getD k ByteArray.empty)
def totTo (t : ByteArray) (L : List ByteArray) : Nat → Nat
  | 0 => t.size
  | k + 1 => totTo t L k + (L.getD k ByteArray.empty).size
theorem tagTo_lt (t : ByteArray) (L : List ByteArray) : ∀ k, Lt 256 (tagTo t L k)
  | 0 => measP_lt t
  | k + 1 => (tagTo_lt t L k).app (measP_lt _)
theorem tagTo_length (t : ByteArray) (L : List ByteArray) : ∀ k, (tagTo t L k).length = 4 * (k + 1) + totTo t L k
  | 0 => measP_length t
  | k + 1 => by rw [tagTo, List.length_append, tagTo_length t L k, measP_length, totTo]; omega
theorem totTo_mono (t : ByteArray) (L : List ByteArray) (i : Nat) : ∀ k, i ≤ k → totTo t L i ≤ totTo t L k
  | 0, h => by
    have : i = 0 := by omega
    subst this
    exact Nat.le_refl _
  | k + 1, h => by
    rcases Nat.lt_or_ge i (k + 1) with h1 | h1
    · exact Nat.le_trans (totTo_mono t L i k (by omega)) (Nat.le_add_right _ _)
    · have : i = k + 1 := by omega
      subst this
      exact Nat.le_refl _
theorem totTo_each (t : ByteArray) (L : List ByteArray) {i n m : Nat} (h : totTo t L n ≤ m) (hi : i < n) : (L.getD i ByteArray.empty).size ≤ m := by
  have h1 := totTo_mono t L (i + 1) n hi
  rw [totTo] at h1
  omega
theorem totTo_tag (t : ByteArray) (L : List ByteArray) {n m : Nat} (h : totTo t L n ≤ m) : t.size ≤ m := Nat.le_trans (totTo_mono t L 0 n (Nat.zero_le _)) h

set_option maxHeartbeats 4000000 in
theorem tagged_any (t : ByteArray) (n cap : Nat) (a : Option Addr) (L : List ByteArray) (w : World) (hL : Laid w) (hT : Txts w n a L) (hn : n ≤ 20) (hz : totTo t L n ≤ 600) :
    Calls Tryd.prog 16 #[.string t, .slice a n cap] w fun e w' => e = .returned (arr8 (sumP (tagTo t L n))) ∧ Below w.heap.size w w' := by
  have HL := hide1 hL
  have HT := hide1 hT
  have hz35 := zero35
  have Hz := hide1 hz
  clear hL hT hz
  go_enter Tryd.func16, Tryd.ntmps16
  go_upto_region 2 with (fail)
  generalize hW : World.alloc (World.alloc w _) _ = W
  have h1 : W.heap[w.heap.size]? = some (row8 24 (zeros 32)) := by rw [← hW]; exact heap_alloc2_old _ _ _
  have h2 : Sums W (w.heap.size + 1) (grownP []) (restP []) ([] : List Nat).length := ⟨by rw [← hW]; exact heap_alloc2_new _ _ _, rfl, rfl⟩
  have h3 : Below w.heap.size w W := by rw [← hW]; exact ((Below.refl _ _).alloc (Nat.le_refl _) _).alloc (by simp) _
  have h4 : Laid W := HL.out.below h3 HL.out.two
  have hWr := hide1 (measured_any (w.heap.size + 1) [] t W h4 (by have := HL.out.two; omega) h2 lt_nil (totTo_tag t L Hz.out) (by simp))
  rw [List.nil_append] at hWr
  have H1 := hide1 h1
  have H3 := hide1 h3
  have H4 := hide1 h4
  clear hW h1 h2 h3 h4
  go_wp2_with fail
  refine hWr.out.mono ?_
  rintro e w1 ⟨rfl, hS1, hB1⟩
  have k1 : Below (w.heap.size + 1) W w1 := hB1.below (Nat.le_refl _) (by have := lt_heap H1.out; omega)
  have S1 := hide1 hS1
  have K1 := hide1 k1
  clear hS1 hB1 k1 hWr
  go_wp2_with fail
  go_loopw [12] (fun v wr => ∃ k : Nat, k ≤ n ∧ v = .int .i64 k ∧ Sums wr (w.heap.size + 1) (grownP (tagTo t L k)) (restP (tagTo t L k)) (tagTo t L k).length ∧ Below (w.heap.size + 1) W wr) (fun v _ => n - (intOf v).toNat)
  case atStart => exact ⟨0, Nat.zero_le _, rfl, S1.out, K1.out⟩
  case round =>
    obtain ⟨k, hk, rfl, hS, hB⟩ := hrel
    have hBw : Below w.heap.size w wr := H3.out.trans (hB.mono (by omega))
    have HLr := hide1 (HL.out.below hBw HL.out.two)
    have HS := hide1 hS
    have HB := hide1 hB
    have HBw := hide1 hBw
    by_cases hin : k < n
    · have gin : (k : Int) < (n : Int) := by omega
      obtain ⟨g, o, rfl, hc0⟩ := HT.out.cell k hin
      have hgl : g < w.heap.size := World.block_lt_of_cell? w _ hc0
      have hc := (hBw.cell (p := ⟨g, o + k, none⟩) hgl).trans hc0
      obtain ⟨j, hj⟩ : ∃ j, j = o + k := ⟨_, rfl⟩
      rw [← hj] at hc
      have ej : o + k = j := hj.symm
      have hsz := totTo_each t L Hz.out hin
      have htl := tagTo_length t L k
      have hmo := totTo_mono t L k n hk
      have HN : Shy (tagTo t L (k + 1) = tagTo t L k ++ measP (L.getD k ByteArray.empty)) := ⟨rfl⟩
      generalize L.getD k ByteArray.empty = s at hc hsz HN
      have hWr := hide1 (measured_any (w.heap.size + 1) (tagTo t L k) s wr HLr.out (by have := HL.out.two; omega) hS (tagTo_lt t L k) hsz (by have := Hz.out; omega))
      clear hS hB hj hc0 hsz htl hmo hBw
      go_wp2_with fail
      refine hWr.out.mono ?_
      rintro e w2 ⟨rfl, hS2, hB2⟩
      rw [← HN.out] at hS2
      have S2 := hide1 hS2
      have K2 : Hid (Below (w.heap.size + 1) W w2) := HB.out.trans (hB2.below (Nat.le_refl _) (by have := lt_heap HS.out.row; omega))
      clear hS2 hB2 hWr
      go_wp2
      go_roundw
      case rel => exact ⟨k + 1, by omega, by go_num, S2.out, K2.out⟩
      case measure => simp [intOf]; omega
    · have hkn : k = n := by omega
      subst hkn
      have gin : ¬ (k : Int) < (k : Int) := by omega
      have htl := tagTo_length t L k
      have hSm := hide1 (sum_any (w.heap.size + 1) (tagTo t L k) wr HLr.out (by have := HL.out.two; omega) hS (tagTo_lt t L k) (by have := Hz.out; omega))
      unfold arr8 at hSm
      clear hS hB hBw htl
      go_wp2_with fail
      refine hSm.out.mono ?_
      rintro e w2 ⟨rfl, hb2⟩
      have r2 : w2.heap[w.heap.size]? = some (row8 24 (zeros 32)) := (hb2.block _ (by have := HBw.out.size; have := lt_heap HS.out.row; omega)).trans ((HB.out.block _ (by omega)).trans H1.out)
      have R2 := hide1 r2
      have B2 : Hid (Below w.heap.size w w2) := HBw.out.trans (hb2.mono HBw.out.size)
      clear r2 hb2 hSm
      have e32 : (u8s (sumP (tagTo t L k))).toArray.size = 32 := by simp [u8s, sumP_length]
      have E32 := hide1 e32
      clear e32
      go_wp2_with (first | (refine wpList_store_own rfl 24 (.tmp 4) (.tmp 19) rfl w.heap.size rfl (u8s (sumP (tagTo t L k))).toArray rfl 24 _ R2.out (by rw [E32.out]; kernel_rfl) (by rw [E32.out]; rfl) (all_one (u8s_one _)) ?_) | fail)
      refine ret_row Tryd.results16 w.heap.size 24 (u8s (sumP (tagTo t L k))).toArray rfl (setRow_heap _ _ _ _ _ _ R2.out) Tryd.underlying24 (by rw [E32.out]; kernel_rfl) rfl ⟨rfl, ?_⟩
      exact Below.setRow' B2.out (Nat.le_refl _) _

set_option maxHeartbeats 4000000 in
theorem rtagged_any (t : ByteArray) (n cap : Nat) (a : Option Addr) (L : List ByteArray) (w : World) (hT : Txts w n a L) (hn : n ≤ 20) (hz : totTo t L n ≤ 600) :
    Calls Tryd.prog 17 #[.string t, .slice a n cap] w fun e w' => e = .returned (arr8 (sumP (tagTo t L n))) ∧ Below w.heap.size w w' := by
  have HT := hide1 hT
  have Hz := hide1 hz
  clear hT hz
  go_enter Tryd.func17, Tryd.ntmps17
  go_wp2_with fail
  generalize hW : World.alloc w _ = W
  have h1 : W.heap[w.heap.size]? = some (row8 24 (zeros 32)) := by rw [← hW]; exact heap_alloc_new _ _
  have h2 : Below w.heap.size w W := by rw [← hW]; exact (Below.refl _ _).alloc (Nat.le_refl _) _
  have H1 := hide1 h1
  have H2 := hide1 h2
  clear hW h1 h2
  refine (long_any t W (totTo_tag t L Hz.out)).mono ?_
  rintro e w1 ⟨q, rfl, hq, hb1⟩
  have HQ : Shy (nums q = tagTo t L 0) := ⟨hq⟩
  have B1 := hide1 hb1
  clear hq hb1
  go_wp2
  go_loopw [5, 6] (fun v5 v6 wr => ∃ (k : Nat) (acc : ByteArray), k ≤ n ∧ v6 = .int .i64 k ∧ v5 = .string acc ∧ Shy (nums acc = tagTo t L k) ∧ Below W.heap.size W wr) (fun _ v6 _ => n - (intOf v6).toNat)
  case atStart => exact ⟨0, q, Nat.zero_le _, rfl, rfl, HQ, B1.out⟩
  case round =>
    obtain ⟨k, acc, hk, rfl, rfl, HA, hB⟩ := hrel
    have hBw : Below w.heap.size w wr := H2.out.trans (hB.mono H2.out.size)
    have HB := hide1 hB
    have HBw := hide1 hBw
    have has : acc.size = 4 * (k + 1) + totTo t L k := by rw [nums_size HA.out, tagTo_length]
    have hmo := totTo_mono t L k n hk
    have hab : acc.size ≤ 1000 := by have := Hz.out; omega
    by_cases hin : k < n
    · have gin : (k : Int) < (n : Int) := by omega
      obtain ⟨g, o, rfl, hc0⟩ := HT.out.cell k hin
      have hgl : g < w.heap.size := World.block_lt_of_cell? w _ hc0
      have hc := (hBw.cell (p := ⟨g, o + k, none⟩) hgl).trans hc0
      obtain ⟨j, hj⟩ : ∃ j, j = o + k := ⟨_, rfl⟩
      rw [← hj] at hc
      have ej : o + k = j := hj.symm
      have hsz := totTo_each t L Hz.out hin
      have HN : Shy (tagTo t L (k + 1) = tagTo t L k ++ measP (L.getD k ByteArray.empty)) := ⟨rfl⟩
      generalize L.getD k ByteArray.empty = s at hc hsz HN
      have hWr := hide1 (long_any s wr hsz)
      clear hB hj hc0 hmo hBw has
      go_wp2_with fail
      refine hWr.out.mono ?_
      rintro e w2 ⟨r, rfl, hr, hb2⟩
      have hrs : r.size ≤ 700 := by rw [nums_size hr, measP_length]; omega
      have z1 : ¬ (9223372036854775807 < acc.size + r.size) := by omega
      have HR : Shy (nums r = measP s) := ⟨hr⟩
      have K2 : Hid (Below W.heap.size W w2) := HB.out.trans (hb2.mono HB.out.size)
      clear hr hb2 hWr
      go_wp2
      go_roundw
      case rel => exact ⟨k + 1, acc ++ r, by omega, by go_num, rfl, ⟨by rw [nums_append, HA.out, HR.out, HN.out]⟩, K2.out⟩
      case measure => simp [intOf]; omega
    · have hkn : k = n := by omega
      subst hkn
      have gin : ¬ (k : Int) < (k : Int) := by omega
      have hSm := hide1 (rsum_any acc wr (by omega))
      rw [HA.out] at hSm
      unfold arr8 at hSm
      clear hB hBw hmo has
      go_wp2_with fail
      refine hSm.out.mono ?_
      rintro e w2 ⟨rfl, hb2⟩
      have r2 : w2.heap[w.heap.size]? = some (row8 24 (zeros 32)) := (hb2.block _ (by have := HB.out.size; have := lt_heap H1.out; omega)).trans ((HB.out.block _ (lt_heap H1.out)).trans H1.out)
      have R2 := hide1 r2
      have B2 : Hid (Below w.heap.size w w2) := HBw.out.trans (hb2.mono HBw.out.size)
      clear r2 hb2 hSm
      have e32 : (u8s (sumP (tagTo t L k))).toArray.size = 32 := by simp [u8s, sumP_length]
      have E32 := hide1 e32
      clear e32
      go_wp2_with (first | (refine wpList_store_own rfl 24 (.tmp 4) (.tmp 23) rfl w.heap.size rfl (u8s (sumP (tagTo t L k))).toArray rfl 24 _ R2.out (by rw [E32.out]; kernel_rfl) (by rw [E32.out]; rfl) (all_one (u8s_one _)) ?_) | fail)
      refine ret_row Tryd.results17 w.heap.size 24 (u8s (sumP (tagTo t L k))).toArray rfl (setRow_heap _ _ _ _ _ _ R2.out) Tryd.underlying24 (by rw [E32.out]; kernel_rfl) rfl ⟨rfl, ?_⟩
      exact Below.setRow' B2.out (Nat.le_refl _) _
end Go.Proofs.YtjcfllidandeiaaDoor
