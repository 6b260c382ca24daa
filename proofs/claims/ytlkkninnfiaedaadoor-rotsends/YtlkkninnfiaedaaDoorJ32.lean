/- Tagged, the program's and the document's. A number's eight bytes; Hash: the program's and the document's. -/
import Derived.Test.YtlkkninnfiaedaaDoorJ31
import Derived.Test.YtlkkninnfiaedaaDoorJ17
import Derived.Test.YtlkkninnfiaedaaDoorJ19
namespace Go.Proofs.YtlkkninnfiaedaaDoor.Sh
open Go.RowKit
set_option maxRecDepth 100000
attribute [local go_sem] not_any

def tagTo (t : ByteArray) (L : List ByteArray) : Nat → List Nat
  | 0 => measP t
  | k + 1 => tagTo t L k ++ measP (L.getD k ByteArray.empty)
def totTo (t : ByteArray) (L : List ByteArray) : Nat → Nat
  | 0 => t.size
  | k + 1 => totTo t L k + (L.getD k ByteArray.empty).size
theorem tagTo_lt (t : ByteArray) (L : List ByteArray) : ∀ k, Lt 256 (tagTo t L k)
  | 0 => measP_lt t
  | k + 1 => (tagTo_lt t L k).app (measP_lt _)
theorem tagTo_length (t : ByteArray) (L : List ByteArray) : ∀ k, (tagTo t L k).length = 4 * (k + 1) + totTo t L k
  | 0 => measP_length t
  | k + 1 => by rw [tagTo, List.length_append, tagTo_length t L k, measP_length, totTo]; omega
theorem totTo_mono (t : ByteArray) (L : List ByteArray) (i : Nat) : ∀ k, i ≤ k → totTo t L i ≤ totTo t L k
  | 0, h => by
    have : i = 0 := by omega
    subst this
    exact Nat.le_refl _
  | k + 1, h => by
    rcases Nat.lt_or_ge i (k + 1) with h1 | h1
    · exact Nat.le_trans (totTo_mono t L i k (by omega)) (Nat.le_add_right _ _)
    · have : i = k + 1 := by omega
      subst this
      exact Nat.le_refl _
theorem totTo_each (t : ByteArray) (L : List ByteArray) {i n m : Nat} (h : totTo t L n ≤ m) (hi : i < n) : (L.getD i ByteArray.empty).size ≤ m := by
  have h1 := totTo_mono t L (i + 1) n hi
  rw [totTo] at h1
  omega
theorem totTo_tag (t : ByteArray) (L : List ByteArray) {n m : Nat} (h : totTo t L n ≤ m) : t.size ≤ m := Nat.le_trans (totTo_mono t L 0 n (Nat.zero_le _)) h

set_option maxHeartbeats 4000000 in
theorem tagged_any (t : ByteArray) (n cap : Nat) (a : Option Addr) (L : List ByteArray) (w : World) (hL : Laid w) (hT : Txts w n a L) (hn : n ≤ 20) (hz : totTo t L n ≤ 600) :
    Calls Tryd.prog 29 #[.string t, .slice a n cap] w fun e w' => e = .returned (arr8 (sumP (tagTo t L n))) ∧ Below w.heap.size w w' := by
  have HL := hide1 hL
  have HT := hide1 hT
  have hz35 := zero35
  have Hz := hide1 hz
  clear hL hT hz
  go_enter Tryd.func29, Tryd.ntmps29
  go_upto_region 2 with (fail)
  generalize hW : World.alloc (World.alloc w _) _ = W
  have h1 : W.heap[w.heap.size]? = some (row8 76 (zeros 32)) := by rw [← hW]; exact heap_alloc2_old _ _ _
  have h2 : Sums W (w.heap.size + 1) (grownP []) (restP []) ([] : List Nat).length := ⟨by rw [← hW]; exact heap_alloc2_new _ _ _, rfl, rfl⟩
  have h3 : Below w.heap.size w W := by rw [← hW]; exact ((Below.refl _ _).alloc (Nat.le_refl _) _).alloc (by simp) _
  have h4 : Laid W := HL.out.below h3 HL.out.two
  have hWr := hide1 (measured_any (w.heap.size + 1) [] t W h4 (by have := HL.out.two; omega) h2 lt_nil (totTo_tag t L Hz.out) (by simp))
  rw [List.nil_append] at hWr
  have H1 := hide1 h1
  have H3 := hide1 h3
  have H4 := hide1 h4
  clear hW h1 h2 h3 h4
  go_wp2_with fail
  refine hWr.out.mono ?_
  rintro e w1 ⟨rfl, hS1, hB1⟩
  have k1 : Below (w.heap.size + 1) W w1 := hB1.below (Nat.le_refl _) (by have := lt_heap H1.out; omega)
  have S1 := hide1 hS1
  have K1 := hide1 k1
  clear hS1 hB1 k1 hWr
  go_wp2_with fail
  go_loopw [12] (fun v wr => ∃ k : Nat, k ≤ n ∧ v = .int .i64 k ∧ Sums wr (w.heap.size + 1) (grownP (tagTo t L k)) (restP (tagTo t L k)) (tagTo t L k).length ∧ Below (w.heap.size + 1) W wr) (fun v _ => n - (intOf v).toNat)
  case atStart => exact ⟨0, Nat.zero_le _, rfl, S1.out, K1.out⟩
  case round =>
    obtain ⟨k, hk, rfl, hS, hB⟩ := hrel
    have hBw : Below w.heap.size w wr := H3.out.trans (hB.mono (by omega))
    have HLr := hide1 (HL.out.below hBw HL.out.two)
    have HS := hide1 hS
    have HB := hide1 hB
    have HBw := hide1 hBw
    by_cases hin : k < n
    · have gin : (k : Int) < (n : Int) := by omega
      obtain ⟨g, o, rfl, hc0⟩ := HT.out.cell k hin
      have hgl : g < w.heap.size := World.block_lt_of_cell? w _ hc0
      have hc := (hBw.cell (p := ⟨g, o + k, none⟩) hgl).trans hc0
      obtain ⟨j, hj⟩ : ∃ j, j = o + k := ⟨_, rfl⟩
      rw [← hj] at hc
      have ej : o + k = j := hj.symm
      have hsz := totTo_each t L Hz.out hin
      have htl := tagTo_length t L k
      have hmo := totTo_mono t L k n hk
      have HN : Shy (tagTo t L (k + 1) = tagTo t L k ++ measP (L.getD k ByteArray.empty)) := ⟨rfl⟩
      generalize L.getD k ByteArray.empty = s at hc hsz HN
      have hWr := hide1 (measured_any (w.heap.size + 1) (tagTo t L k) s wr HLr.out (by have := HL.out.two; omega) hS (tagTo_lt t L k) hsz (by have := Hz.out; omega))
      clear hS hB hj hc0 hsz htl hmo hBw
      go_wp2_with fail
      refine hWr.out.mono ?_
      rintro e w2 ⟨rfl, hS2, hB2⟩
      rw [← HN.out] at hS2
      have S2 := hide1 hS2
      have K2 : Hid (Below (w.heap.size + 1) W w2) := HB.out.trans (hB2.below (Nat.le_refl _) (by have := lt_heap HS.out.row; omega))
      clear hS2 hB2 hWr
      go_wp2
      go_roundw
      case rel => exact ⟨k + 1, by omega, by go_num, S2.out, K2.out⟩
      case measure => simp [intOf]; omega
    · have hkn : k = n := by omega
      subst hkn
      have gin : ¬ (k : Int) < (k : Int) := by omega
      have htl := tagTo_length t L k
      have hSm := hide1 (sum_any (w.heap.size + 1) (tagTo t L k) wr HLr.out (by have := HL.out.two; omega) hS (tagTo_lt t L k) (by have := Hz.out; omega))
      unfold arr8 at hSm
      clear hS hB hBw htl
      go_wp2_with fail
      refine hSm.out.mono ?_
      rintro e w2 ⟨rfl, hb2⟩
      have r2 : w2.heap[w.heap.size]? = some (row8 76 (zeros 32)) := (hb2.block _ (by have := HBw.out.size; have := lt_heap HS.out.row; omega)).trans ((HB.out.block _ (by omega)).trans H1.out)
      have R2 := hide1 r2
      have B2 : Hid (Below w.heap.size w w2) := HBw.out.trans (hb2.mono HBw.out.size)
      clear r2 hb2 hSm
      have e32 : (u8s (sumP (tagTo t L k))).toArray.size = 32 := by simp [u8s, sumP_length]
      have E32 := hide1 e32
      clear e32
      go_wp2_with (first | (refine wpList_store_own rfl 76 (.tmp 4) (.tmp 19) rfl w.heap.size rfl (u8s (sumP (tagTo t L k))).toArray rfl 76 _ R2.out (by rw [E32.out]; kernel_rfl) (by rw [E32.out]; rfl) (all_one (u8s_one _)) ?_) | fail)
      refine ret_row Tryd.results29 w.heap.size 76 (u8s (sumP (tagTo t L k))).toArray rfl (setRow_heap _ _ _ _ _ _ R2.out) Tryd.underlying76 (by rw [E32.out]; kernel_rfl) rfl ⟨rfl, ?_⟩
      exact Below.setRow' B2.out (Nat.le_refl _) _

set_option maxHeartbeats 4000000 in
theorem rtagged_any (t : ByteArray) (n cap : Nat) (a : Option Addr) (L : List ByteArray) (w : World) (hT : Txts w n a L) (hn : n ≤ 20) (hz : totTo t L n ≤ 600) :
    Calls Tryd.prog 32 #[.string t, .slice a n cap] w fun e w' => e = .returned (arr8 (sumP (tagTo t L n))) ∧ Below w.heap.size w w' := by
  have HT := hide1 hT
  have Hz := hide1 hz
  clear hT hz
  go_enter Tryd.func32, Tryd.ntmps32
  go_wp2_with fail
  generalize hW : World.alloc w _ = W
  have h1 : W.heap[w.heap.size]? = some (row8 76 (zeros 32)) := by rw [← hW]; exact heap_alloc_new _ _
  have h2 : Below w.heap.size w W := by rw [← hW]; exact (Below.refl _ _).alloc (Nat.le_refl _) _
  have H1 := hide1 h1
  have H2 := hide1 h2
  clear hW h1 h2
  refine (long_any t W (totTo_tag t L Hz.out)).mono ?_
  rintro e w1 ⟨q, rfl, hq, hb1⟩
  have HQ : Shy (nums q = tagTo t L 0) := ⟨hq⟩
  have B1 := hide1 hb1
  clear hq hb1
  go_wp2
  go_loopw [5, 6] (fun v5 v6 wr => ∃ (k : Nat) (acc : ByteArray), k ≤ n ∧ v6 = .int .i64 k ∧ v5 = .string acc ∧ Shy (nums acc = tagTo t L k) ∧ Below W.heap.size W wr) (fun _ v6 _ => n - (intOf v6).toNat)
  case atStart => exact ⟨0, q, Nat.zero_le _, rfl, rfl, HQ, B1.out⟩
  case round =>
    obtain ⟨k, acc, hk, rfl, rfl, HA, hB⟩ := hrel
    have hBw : Below w.heap.size w wr := H2.out.trans (hB.mono H2.out.size)
    have HB := hide1 hB
    have HBw := hide1 hBw
    have has : acc.size = 4 * (k + 1) + totTo t L k := by rw [nums_size HA.out, tagTo_length]
    have hmo := totTo_mono t L k n hk
    have hab : acc.size ≤ 1000 := by have := Hz.out; omega
    by_cases hin : k < n
    · have gin : (k : Int) < (n : Int) := by omega
      obtain ⟨g, o, rfl, hc0⟩ := HT.out.cell k hin
      have hgl : g < w.heap.size := World.block_lt_of_cell? w _ hc0
      have hc := (hBw.cell (p := ⟨g, o + k, none⟩) hgl).trans hc0
      obtain ⟨j, hj⟩ : ∃ j, j = o + k := ⟨_, rfl⟩
      rw [← hj] at hc
      have ej : o + k = j := hj.symm
      have hsz := totTo_each t L Hz.out hin
      have HN : Shy (tagTo t L (k + 1) = tagTo t L k ++ measP (L.getD k ByteArray.empty)) := ⟨rfl⟩
      generalize L.getD k ByteArray.empty = s at hc hsz HN
      have hWr := hide1 (long_any s wr hsz)
      clear hB hj hc0 hmo hBw has
      go_wp2_with fail
      refine hWr.out.mono ?_
      rintro e w2 ⟨r, rfl, hr, hb2⟩
      have hrs : r.size ≤ 700 := by rw [nums_size hr, measP_length]; omega
      have z1 : ¬ (9223372036854775807 < acc.size + r.size) := by omega
      have HR : Shy (nums r = measP s) := ⟨hr⟩
      have K2 : Hid (Below W.heap.size W w2) := HB.out.trans (hb2.mono HB.out.size)
      clear hr hb2 hWr
      go_wp2
      go_roundw
      case rel => exact ⟨k + 1, acc ++ r, by omega, by go_num, rfl, ⟨by rw [nums_append, HA.out, HR.out, HN.out]⟩, K2.out⟩
      case measure => simp [intOf]; omega
    · have hkn : k = n := by omega
      subst hkn
      have gin : ¬ (k : Int) < (k : Int) := by omega
      have hSm := hide1 (rsum_any acc wr (by omega))
      rw [HA.out] at hSm
      unfold arr8 at hSm
      clear hB hBw hmo has
      go_wp2_with fail
      refine hSm.out.mono ?_
      rintro e w2 ⟨rfl, hb2⟩
      have r2 : w2.heap[w.heap.size]? = some (row8 76 (zeros 32)) := (hb2.block _ (by have := HB.out.size; have := lt_heap H1.out; omega)).trans ((HB.out.block _ (lt_heap H1.out)).trans H1.out)
      have R2 := hide1 r2
      have B2 : Hid (Below w.heap.size w w2) := HBw.out.trans (hb2.mono HBw.out.size)
      clear r2 hb2 hSm
      have e32 : (u8s (sumP (tagTo t L k))).toArray.size = 32 := by simp [u8s, sumP_length]
      have E32 := hide1 e32
      clear e32
      go_wp2_with (first | (refine wpList_store_own rfl 76 (.tmp 4) (.tmp 23) rfl w.heap.size rfl (u8s (sumP (tagTo t L k))).toArray rfl 76 _ R2.out (by rw [E32.out]; kernel_rfl) (by rw [E32.out]; rfl) (all_one (u8s_one _)) ?_) | fail)
      refine ret_row Tryd.results32 w.heap.size 76 (u8s (sumP (tagTo t L k))).toArray rfl (setRow_heap _ _ _ _ _ _ R2.out) Tryd.underlying76 (by rw [E32.out]; kernel_rfl) rfl ⟨rfl, ?_⟩
      exact Below.setRow' B2.out (Nat.le_refl _) _
end Go.Proofs.YtlkkninnfiaedaaDoor.Sh

namespace Go.Proofs.YtlkkninnfiaedaaDoor.Ro
open Go.RowKit Pg
set_option maxRecDepth 100000
theorem hide1 {p : Prop} (h : p) : Hid p := h
attribute [local go_sem] not_any

/- a number's bytes, the lowest first -/
def b8 (n i : Nat) : Nat := n / 2 ^ (8 * i) % 256
def by8 (n : Nat) : Nat → List Nat
  | 0 => []
  | k + 1 => by8 n k ++ [b8 n k]
theorem by8_length (n : Nat) : ∀ k, (by8 n k).length = k
  | 0 => rfl
  | k + 1 => by rw [by8, List.length_append, by8_length n k]; rfl
theorem by8_lt (n : Nat) : ∀ k, Lt 256 (by8 n k)
  | 0 => fun x h => by cases h
  | k + 1 => (by8_lt n k).app (lt_one (Nat.mod_lt _ (by omega)))

set_option maxHeartbeats 1000000 in
theorem bytesOf_any (n : Nat) (w : World) :
    Calls Tryd.prog 30 #[.int .u64 (n : Int)] w fun e w' => e = .returned (.string (txt (by8 n 8))) ∧ Below w.heap.size w w' := by
  have HSu : Shy (∀ k, k < 8 → (by8 n k ++ zeros (8 - k)).set k (b8 n k) = by8 n (k + 1) ++ zeros (8 - (k + 1))) := ⟨fun k hk => by
    rw [List.set_append_right _ _ (by simp [by8_length]), by8_length, Nat.sub_self, show 8 - k = (8 - (k + 1)) + 1 by omega, zeros, List.replicate_succ, List.set_cons_zero, by8, List.append_assoc]
    rfl⟩
  have HL : Shy (∀ k, k ≤ 8 → (by8 n k ++ zeros (8 - k)).length = 8) := ⟨fun k hk => by rw [List.length_append, by8_length, zeros_length]; omega⟩
  have HZ : Shy (by8 n 8 ++ zeros (8 - 8) = by8 n 8 ∧ (by8 n 8).length = 8) := ⟨⟨by simp [zeros], by8_length _ _⟩⟩
  have H0 : Shy (by8 n 0 ++ zeros (8 - 0) = zeros 8) := ⟨rfl⟩
  have HB : Shy (∀ k, b8 n k = n / 2 ^ (8 * k) % 256) := ⟨fun _ => rfl⟩
  obtain ⟨tx, HTX⟩ : ∃ tx, Shy (txt (by8 n 8) = tx) := ⟨_, ⟨rfl⟩⟩
  rw [HTX.out]
  go_enter Tryd.func30, Tryd.ntmps30
  go_upto_region 2 with (fail)
  generalize hX : World.alloc w _ = X
  have x1 : X.heap[w.heap.size]? = some (row8 108 (zeros 8)) := by rw [← hX]; exact heap_alloc_new _ _
  have xb : Below w.heap.size w X := by rw [← hX]; exact (Below.refl _ _).alloc (Nat.le_refl _) _
  have X1 := hide1 x1
  have XB := hide1 xb
  clear hX x1 xb
  go_wp2
  go_loopw [5] (fun v wr => ∃ k : Nat, k ≤ 8 ∧ v = .int .i64 k ∧ wr.heap[w.heap.size]? = some (row8 108 (by8 n k ++ zeros (8 - k))) ∧ Below w.heap.size w wr) (fun v _ => 8 - (intOf v).toNat)
  case atStart => exact ⟨0, Nat.zero_le _, rfl, by rw [H0.out]; exact X1.out, XB.out⟩
  case round =>
    obtain ⟨k, hk, rfl, hr1, hbe⟩ := hrel
    by_cases hlt : k < 8
    · have hS := HSu.out k hlt
      have hl := HL.out k hk
      generalize by8 n k ++ zeros (8 - k) = cur at *
      have cu := cell8 hr1 (j := k) (by omega)
      have fu := frozen_of_row wr (w.heap.size) k _ _ hr1
      have HS : Shy (cur.set k (b8 n k) = by8 n (k + 1) ++ zeros (8 - (k + 1))) := ⟨hS⟩
      have R1 := hide1 hr1
      have HE := hide1 hbe
      clear hS hl hr1 hbe
      generalize at0 cur k = old at *
      obtain ⟨q, hq⟩ : ∃ q, q = 8 * k := ⟨_, rfl⟩
      have e2 : 8 * (k : Int) = (q : Int) := by omega
      have hv : IntKind.u8.wrap ((n : Int) / 2 ^ q) = ((b8 n k : Nat) : Int) := by rw [shr_byte, HB.out, hq]
      generalize b8 n k = v at *
      have bq : (q : Int) < 64 := by omega
      have bk : (k : Int) < 8 := by omega
      clear hq HB HSu HL
      go_wp2
      go_roundw
      case rel =>
        refine ⟨k + 1, by omega, by go_num, ?_, ?_⟩
        · rw [← HS.out]; exact set8 R1.out
        · exact HE.out.setCell (by simp) _
      case measure => simp [intOf]; omega
    · obtain rfl : k = 8 := by omega
      rw [HZ.out.1] at hr1
      have hcv := conv_row (cap := 8) hr1
      rw [HZ.out.2] at hcv
      have HE := hide1 hbe
      clear hr1 hbe
      rw [HTX.out] at hcv
      go_wp2
      go_ret
      exact ⟨rfl, HE.out⟩

/- the tag -/
def rotT : ByteArray := ⟨#[114, 111, 116]⟩
/- a seed of a number and a row -/
def hashP (n a b : Nat) : List Nat := Sh.sumP (Sh.tagTo rotT [txt (by8 n 8), txt (bysP a b 16)] 2)
theorem hashP_len (n a b : Nat) : (hashP n a b).length = 32 := Sh.sumP_length _
theorem sum_lt (l : List Nat) : Lt 256 (Sh.sumP l) := by
  have h : ∀ h : List Nat, Lt 256 (h.flatMap Sh.bytesP) := fun h x hx => by
    rw [List.mem_flatMap] at hx
    obtain ⟨y, _, hy⟩ := hx
    simp [Sh.bytesP] at hy
    omega
  unfold Sh.sumP
  split <;> exact h _
theorem hashP_lt (n a b : Nat) : Lt 256 (hashP n a b) := sum_lt _
theorem txt_size {l : List Nat} (h : Lt 256 l) : (txt l).size = l.length := nums_size (nums_txt h)
theorem tot2 (s t : ByteArray) : Sh.totTo rotT [s, t] 2 = 3 + s.size + t.size := rfl
theorem hash_size (n a b : Nat) : Sh.totTo rotT [txt (by8 n 8), txt (bysP a b 16)] 2 ≤ 600 := by
  have h1 : (txt (by8 n 8)).size = 8 := (txt_size (by8_lt n 8)).trans (by8_length n 8)
  have h2 : (txt (bysP a b 16)).size = 16 := (txt_size (bysP_lt a b 16)).trans (bysP_length a b 16)
  generalize txt (by8 n 8) = s at *
  generalize txt (bysP a b 16) = t at *
  rw [tot2]
  omega
theorem txts2 {w : World} {g : Nat} {s t : ByteArray} (h : w.heap[g]? = some (.cells #[.string s, .string t] 9 (0, 0))) : Sh.Txts w 2 (some ⟨g, 0, none⟩) [s, t] := ⟨fun j hj => ⟨g, 0, rfl, by
  rw [cell_of_row w g _ _ _ _ h]
  rcases (by omega : j = 0 ∨ j = 1) with rfl | rfl <;> rfl⟩⟩
theorem tag2 (n a b : Nat) (w : World) (g : Nat) (hL : Sh.Laid w) (h : w.heap[g]? = some (.cells #[.string (txt (by8 n 8)), .string (txt (bysP a b 16))] 9 (0, 0))) :
    Calls Tryd.prog 29 #[.string ⟨#[114, 111, 116]⟩, .slice (some ⟨g, 0, none⟩) 2 2] w fun e w' => e = .returned (.agg (u8s (hashP n a b)).toArray) ∧ Below w.heap.size w w' :=
  Sh.tagged_any rotT 2 2 _ _ w hL (txts2 h) (by omega) (hash_size n a b)
theorem rtag2 (n a b : Nat) (w : World) (g : Nat) (h : w.heap[g]? = some (.cells #[.string (txt (by8 n 8)), .string (txt (bysP a b 16))] 9 (0, 0))) :
    Calls Tryd.prog 32 #[.string ⟨#[114, 111, 116]⟩, .slice (some ⟨g, 0, none⟩) 2 2] w fun e w' => e = .returned (.agg (u8s (hashP n a b)).toArray) ∧ Below w.heap.size w w' :=
  Sh.rtagged_any rotT 2 2 _ _ w (txts2 h) (by omega) (hash_size n a b)

set_option maxHeartbeats 2000000 in
theorem hash_any (n a b : Nat) (w : World) (hL : Sh.Laid w) (ha : a < 18446744073709551616) :
    Calls Tryd.prog 8 #[.int .u64 (n : Int), rw2 a b] w fun e w' => e = .returned (arr8 (hashP n a b)) ∧ Below w.heap.size w w' := by
  have k1 := fun w => hide1 (bytesOf_any n w)
  have k2 := fun w => hide1 (bytes16_any a b w ha)
  have k3 := fun w g hL h => hide1 (tag2 n a b w g hL h)
  have hlen := hashP_len n a b
  generalize hashP n a b = h at *
  obtain ⟨t1, ht1⟩ : ∃ t, t = txt (by8 n 8) := ⟨_, rfl⟩
  obtain ⟨t2, ht2⟩ : ∃ t, t = txt (bysP a b 16) := ⟨_, rfl⟩
  rw [← ht1] at k1 k3
  rw [← ht2] at k2 k3
  have hi := hi23 hlen
  have HZ : Shy ((u8s (zeros 32)).toArray.size = (u8s h).toArray.size) := ⟨by simp [u8s, zeros, hlen]⟩
  have h26 := hi26 a b
  have HL := hide1 hL
  clear ht1 ht2 hlen hL ha
  unfold rw2 arr8 at *
  go_enter Tryd.func8, Tryd.ntmps8
  go_upto_region 1 with (fail)
  generalize hX : World.alloc (World.alloc w _) _ = X
  have x0 : X.heap[w.heap.size]? = some (row2 a b) := by rw [← hX]; exact heap_alloc2_old _ _ _
  have x1 : X.heap[w.heap.size + 1]? = some (row8 28 (zeros 32)) := by rw [← hX]; exact heap_alloc2_new _ _ _
  have xb : Below w.heap.size w X := by rw [← hX]; exact ((Below.refl _ _).alloc (Nat.le_refl _) _).alloc (by simp) _
  have X0 := hide1 x0
  have X1 := hide1 x1
  have XB := hide1 xb
  have XL : Hid (Sh.Laid X) := HL.out.below xb HL.out.two
  clear hX x0 x1 xb HL
  refine region_f (F := [6]) (S := fun W' => Below X.heap.size X W') (by kernel_rfl) (Below.refl _ _).drew (fun hS => ?_)
  refine take_p 0 5 (.int .u64 (n : Int)) rfl rfl (by kernel_rfl) (by kernel_rfl) (by kernel_rfl) (fun _ _ _ h => h) rfl (fun w => by go_simp) ?_
  try simp only [List.setIfInBounds_toArray, List.set_cons_zero, List.set_cons_succ]
  refine take_f 2 7 (.agg #[.int .u64 (a : Int), .int .u64 (b : Int)]) [3, 4, 5, 6] rfl rfl (by kernel_rfl) (by kernel_rfl) (by kernel_rfl) (by kernel_rfl) (by kernel_rfl) (by kernel_rfl) (fun _ _ _ h => h) rfl (fun w hSw => by exact exec_load_row 24 (.tmp 3) rfl _ rfl 24 _ _ _ ((hSw.block _ (lt_heap X0.out)).trans X0.out) Tryd.underlying24 h26) hS ?_
  try simp only [List.setIfInBounds_toArray, List.set_cons_zero, List.set_cons_succ]
  refine ready_f 1 (o := { dst := some 6, op := Op.call { callee := Callee.value (Operand.func 30), args := #[Operand.tmp 5], argTypes := #[22] }, type := 9, pos := "rot.go:26", after := #[{ on := 0, ground := Ground.data }], guard := none }) (by kernel_rfl) rfl (fun K hK => ?_)
  go_simp
  refine (k1 _).out.mono ?_
  rintro e w1 ⟨rfl, hb1⟩
  have hS1 := hS.trans (hb1.mono hS.size)
  refine hK.out _ _ (fun _ _ => hS1) ?_
  clear hK K
  try simp only [Act.put, List.setIfInBounds_toArray, List.set_cons_zero, List.set_cons_succ]
  refine ready_f 3 (o := { dst := some 8, op := Op.call { callee := Callee.value (Operand.func 31), args := #[Operand.tmp 7], argTypes := #[24] }, type := 9, pos := "rot.go:26", after := #[{ on := 2, ground := Ground.data }, { on := 1, ground := Ground.chain }], guard := none }) (by kernel_rfl) rfl (fun K hK => ?_)
  go_simp
  refine (k2 _).out.mono ?_
  rintro e w2 ⟨rfl, hb2⟩
  have hS2 := hS1.trans (hb2.mono hS1.size)
  refine hK.out _ _ (fun _ _ => hS2) ?_
  clear hK K
  try simp only [Act.put, List.setIfInBounds_toArray, List.set_cons_zero, List.set_cons_succ]
  refine ready_f 4 (o := { dst := some 9, op := Op.buildSlice 82 2 #[(0, Operand.tmp 6), (1, Operand.tmp 8)], type := 82, pos := "rot.go:26", after := #[{ on := 1, ground := Ground.data }, { on := 3, ground := Ground.data }], guard := none }) (by kernel_rfl) rfl (fun K hK => ?_)
  rw [if_pos (by rfl)]
  go_simp
  generalize hU : World.alloc _ _ = U
  have hU0 : U.heap[w2.heap.size]? = some (.cells #[.string t1, .string t2] 9 (0, 0)) := by rw [← hU]; exact heap_alloc_new _ _
  have hS3 := hS2.trans ((show Below w2.heap.size w2 U by rw [← hU]; exact (Below.refl _ _).alloc (Nat.le_refl _) _).mono hS2.size)
  clear hU
  refine hK.out _ _ (fun _ _ => hS3) ?_
  clear hK K
  try simp only [Act.put, List.setIfInBounds_toArray, List.set_cons_zero, List.set_cons_succ]
  refine ready_f 5 (o := { dst := some 10, op := Op.call { callee := Callee.value (Operand.func 29), args := #[Operand.const (Value.string { data := #[114, 111, 116] }), Operand.tmp 9], argTypes := #[9, 82] }, type := 76, pos := "rot.go:26", after := #[{ on := 4, ground := Ground.data }, { on := 3, ground := Ground.chain }], guard := none }) (by kernel_rfl) rfl (fun K hK => ?_)
  go_simp
  refine (k3 _ _ (XL.out.below hS3 XL.out.two) hU0).out.mono ?_
  rintro e w5 ⟨rfl, hb5⟩
  have hS5 := hS3.trans (hb5.mono hS3.size)
  refine hK.out _ _ (fun _ _ => hS5) ?_
  clear hK K
  try simp only [Act.put, List.setIfInBounds_toArray, List.set_cons_zero, List.set_cons_succ]
  refine ready_f 6 (o := { dst := none, op := Op.store 28 (Operand.tmp 4) (Operand.tmp 10), type := 0, pos := "rot.go:26", after := #[{ on := 5, ground := Ground.data }, { on := 5, ground := Ground.chain }, { on := 0, ground := Ground.phase }, { on := 1, ground := Ground.phase }, { on := 2, ground := Ground.phase }, { on := 3, ground := Ground.phase }, { on := 4, ground := Ground.phase }, { on := 5, ground := Ground.phase }], guard := none }) (by kernel_rfl) rfl (fun K hK => ?_)
  refine Sh.step_store_own rfl 28 (.tmp 4) (.tmp 10) rfl (w.heap.size + 1) rfl (u8s h).toArray rfl 28 _ ((hS5.block _ (lt_heap X1.out)).trans X1.out) hi HZ.out (all_one (u8s_one _)) rfl ?_
  refine hK.out _ _ (fun h => absurd (by decide) h) ?_
  clear hK K
  refine done_f (by kernel_rfl) ?_ _
  have z1 := setRow_heap w5 (w.heap.size + 1) _ (u8s h).toArray _ _ ((hS5.block _ (lt_heap X1.out)).trans X1.out)
  have zb := Below.setRow' (g := w.heap.size + 1) (XB.out.trans (hS5.mono XB.out.size)) (by omega) (u8s h).toArray
  generalize World.setRow w5 _ _ = Z at *
  have Z1 := hide1 z1
  have ZB := hide1 zb
  clear hS5 z1 zb
  go_wp2
  refine ret_row Tryd.results8 (w.heap.size + 1) 28 (u8s h).toArray rfl Z1.out Tryd.underlying28 hi rfl ⟨rfl, ZB.out⟩

set_option maxHeartbeats 4000000 in
theorem rhash_any (n a b : Nat) (w : World) (hn : n < 18446744073709551616) (ha : a < 18446744073709551616) :
    Calls Tryd.prog 9 #[.int .u64 (n : Int), rw2 a b] w fun e w' => e = .returned (arr8 (hashP n a b)) ∧ Below w.heap.size w w' := by
  obtain ⟨i0, hi0, hz0, hz1, hz2⟩ := info_of info5
  have k2 := fun w => hide1 (rbytes16_any a b w ha)
  have k3 := fun w g h => hide1 (rtag2 n a b w g h)
  have hlen := hashP_len n a b
  have HQ : Shy (∀ k, n / 2 ^ (8 * (k + 1)) = n / 2 ^ (8 * k) / 256) := ⟨fun k => by rw [Nat.div_div_eq_div_mul, show 8 * (k + 1) = 8 * k + 8 by omega, Nat.pow_add]⟩
  have HQ0 : Shy (n / 2 ^ (8 * 0) = n) := ⟨by simp⟩
  have HQL : Shy (∀ k, n / 2 ^ (8 * k) < 18446744073709551616) := ⟨fun k => Nat.lt_of_le_of_lt (Nat.div_le_self _ _) hn⟩
  have HP : Shy (∀ k, by8 n (k + 1) = by8 n k ++ [n / 2 ^ (8 * k) % 256]) := ⟨fun k => rfl⟩
  have HN : Shy (∀ k, (by8 n k).length = k) := ⟨by8_length n⟩
  have H0 : Shy (by8 n 0 = []) := ⟨rfl⟩
  generalize hashP n a b = h at *
  obtain ⟨t1, HT1⟩ : ∃ t, Shy (txt (by8 n 8) = t) := ⟨_, ⟨rfl⟩⟩
  obtain ⟨t2, ht2⟩ : ∃ t, t = txt (bysP a b 16) := ⟨_, rfl⟩
  rw [HT1.out] at k3
  rw [← ht2] at k2 k3
  have hi := hi23 hlen
  have HZ : Shy ((u8s (zeros 32)).toArray.size = (u8s h).toArray.size) := ⟨by simp [u8s, zeros, hlen]⟩
  have h26 := hi26 a b
  generalize by8 n = B at *
  obtain ⟨Q, hQ⟩ : ∃ Q : Nat → Nat, Q = fun k => n / 2 ^ (8 * k) := ⟨_, rfl⟩
  replace HQ : Shy (∀ k, Q (k + 1) = Q k / 256) := ⟨fun k => by rw [hQ]; exact HQ.out k⟩
  replace HQ0 : Shy (n = Q 0) := ⟨by rw [hQ]; exact HQ0.out.symm⟩
  replace HQL : Shy (∀ k, Q k < 18446744073709551616) := ⟨fun k => by rw [hQ]; exact HQL.out k⟩
  replace HP : Shy (∀ k, B (k + 1) = B k ++ [Q k % 256]) := ⟨fun k => by rw [hQ]; exact HP.out k⟩
  clear hQ ht2 hlen ha hn
  unfold rw2 arr8 at *
  go_enter Tryd.func9, Tryd.ntmps9
  go_upto_region 1 with (fail)
  generalize hX : World.alloc (World.alloc w _) _ = X
  have x0 : X.heap[w.heap.size]? = some (row2 a b) := by rw [← hX]; exact heap_alloc2_old _ _ _
  have x1 : X.heap[w.heap.size + 1]? = some (row8 28 (zeros 32)) := by rw [← hX]; exact heap_alloc2_new _ _ _
  have xb : Below w.heap.size w X := by rw [← hX]; exact ((Below.refl _ _).alloc (Nat.le_refl _) _).alloc (by simp) _
  have xs : X.heap.size = w.heap.size + 2 := by rw [← hX]; simp
  have X0 := hide1 x0
  have X1 := hide1 x1
  have XB := hide1 xb
  have XS := hide1 xs
  clear hX x0 x1 xb xs
  go_wp2
  go_loopw [0, 5, 6] (fun v0 v5 v6 wr => ∃ k : Nat, k ≤ 8 ∧ v6 = .int .i64 k ∧ v0 = .int .u64 (Q k : Nat) ∧ (∃ a c, v5 = .slice a k c ∧ (0 < k → ∃ g, a = some ⟨g, 0, none⟩)) ∧ wr.ownsRow X.heap.size 5 1 v5 k (u8s (B k)) ∧ X.heap.size ≤ wr.heap.size ∧ Below X.heap.size X wr) (fun _ _ v6 _ => 8 - (intOf v6).toNat)
  case atStart => exact ⟨0, Nat.zero_le _, rfl, by rw [← HQ0.out], ⟨none, 0, rfl, fun h => absurd h (Nat.lt_irrefl _)⟩, by rw [H0.out]; exact World.ownsRow_nil _ _ _ _, Nat.le_refl _, Below.refl _ _⟩
  case round =>
    obtain ⟨k, hk, rfl, rfl, ⟨a3, c3, rfl, ha3⟩, hro, hsz, hbe⟩ := hrel
    by_cases hlt : k < 8
    · have bk : (k : Int) < 8 := by omega
      have HQ1 := hide1 (HQ.out k)
      have HP1 := hide1 (HP.out k)
      have hql := HQL.out k
      generalize Q k = q at *
      obtain ⟨v, hv⟩ : ∃ v, v = q % 256 := ⟨_, rfl⟩
      have e1 : (q : Int) % 256 = (v : Int) := by omega
      have bv : (v : Int) < 256 := by omega
      have e3 : (q : Int) / 256 = ((Q (k + 1) : Nat) : Int) := by rw [HQ1.out]; omega
      have hq2 := HQL.out (k + 1)
      rw [← hv] at HP1
      obtain ⟨q2, hq2e⟩ : ∃ q, q = Q (k + 1) := ⟨_, rfl⟩
      rw [← hq2e] at e3 hq2
      have HQ2 : Shy (q2 = Q (k + 1)) := ⟨hq2e⟩
      clear hq2e
      have HRO := hide1 hro
      have HSz := hide1 hsz
      have HE := hide1 hbe
      clear hro hsz hbe ha3 hv HQ1
      go_wp2_with (first
        | (at_builtin; go_must (refine wpList_append_lies _ rfl (.tmp 11) (.tmp 15) 80 rfl X.heap.size 5 i0 (.int .u8 0) 1 1 Tryd.underlying80 hi0 hz0 hz1 hz2 rfl (by decide) (.slice a3 k c3) k (u8s (B k)) rfl (HRO.out.alloc _) ⟨wr.heap.size, 0, none⟩ 1 1 (u8s [v]) rfl rfl (World.news_of_block (heap_alloc_new wr (row8 5 [v]))) (u8s_one _) (by omega) (by unfold maxLen; omega) (by omega) (by have := HSz.out; rw [size_alloc]; omega) _ rfl ?_; intro g8 cap8 w8 ro8 gr8 wh8 lt8))
        | fail)
      rw [← u8s_append, ← HP1.out] at ro8
      have hb8 : Below X.heap.size (wr.alloc (row8 5 [v])) w8 := (Below.refl _ _).grown gr8 (by rw [size_alloc]; have := HSz.out; omega) (fun k hk => (HRO.out.lt k hk).1)
      have hE8 : Below X.heap.size X w8 := (HE.out.alloc HE.out.size _).trans hb8
      have RO8 := hide1 ro8
      have HB8 := hide1 hE8
      clear ro8 hb8 gr8 wh8 lt8 hE8
      go_wp2
      go_roundw
      case rel => exact ⟨k + 1, by omega, by go_num, by rw [HQ2.out], ⟨_, _, rfl, fun _ => ⟨_, rfl⟩⟩, RO8.out, HB8.out.size, HB8.out⟩
      case measure => simp [intOf]; omega
    · obtain rfl : k = 8 := by omega
      obtain ⟨g, rfl⟩ := ha3 (by omega)
      have hcv : Hid (∀ W, Below wr.heap.size wr W → (convert 80 9 (.slice (some ⟨g, 0, none⟩) 8 c3)).run Tryd.prog W = .ok (.string t1) W) := fun W hW => by
        have := conv_own (HN.out 8) (own_below hro hW)
        rwa [HT1.out] at this
      have Y0 := hide1 ((hbe.block _ (lt_heap X0.out)).trans X0.out)
      have Y1 := hide1 ((hbe.block _ (lt_heap X1.out)).trans X1.out)
      have YB := hide1 (XB.out.trans (hbe.mono XB.out.size))
      clear hro hbe hsz ha3 HQ HQ0 HQL HP HN H0 HT1 X0 X1 XB XS
      generalize Q 8 = q8 at *
      go_upto_region 7 with (fail)
      refine region_f (F := [6]) (S := fun W' => Below wr.heap.size wr W') (by kernel_rfl) (Below.refl _ _).drew (fun hS => ?_)
      refine take_p 0 19 (.slice (some ⟨g, 0, none⟩) 8 c3) rfl rfl (by kernel_rfl) (by kernel_rfl) (by kernel_rfl) (fun _ _ _ h => h) rfl (fun w => by go_simp) ?_
      try simp only [List.setIfInBounds_toArray, List.set_cons_zero, List.set_cons_succ]
      refine take_f 1 20 (.string t1) [4, 5, 6] rfl rfl (by kernel_rfl) (by kernel_rfl) (by kernel_rfl) (by kernel_rfl) (by kernel_rfl) (by kernel_rfl) (fun _ _ _ h => h) rfl (fun w hSw => by have hc := hcv.out w hSw; go_simp) hS ?_
      try simp only [List.setIfInBounds_toArray, List.set_cons_zero, List.set_cons_succ]
      refine take_f 2 21 (.agg #[.int .u64 (a : Int), .int .u64 (b : Int)]) [3, 4, 5, 6] rfl rfl (by kernel_rfl) (by kernel_rfl) (by kernel_rfl) (by kernel_rfl) (by kernel_rfl) (by kernel_rfl) (fun _ _ _ h => h) rfl (fun w hSw => by exact exec_load_row 24 (.tmp 3) rfl _ rfl 24 _ _ _ ((hSw.block _ (lt_heap Y0.out)).trans Y0.out) Tryd.underlying24 h26) hS ?_
      try simp only [List.setIfInBounds_toArray, List.set_cons_zero, List.set_cons_succ]
      have hS1 := hS
      refine ready_f 3 (o := { dst := some 22, op := Op.call { callee := Callee.value (Operand.func 33), args := #[Operand.tmp 21], argTypes := #[24] }, type := 9, pos := "ref.go:26", after := #[{ on := 2, ground := Ground.data }], guard := none }) (by kernel_rfl) rfl (fun K hK => ?_)
      go_simp
      refine (k2 _).out.mono ?_
      rintro e w2 ⟨rfl, hb2⟩
      have hS2 := hS1.trans (hb2.mono hS1.size)
      refine hK.out _ _ (fun _ _ => hS2) ?_
      clear hK K
      try simp only [Act.put, List.setIfInBounds_toArray, List.set_cons_zero, List.set_cons_succ]
      refine ready_f 4 (o := { dst := some 23, op := Op.buildSlice 82 2 #[(0, Operand.tmp 20), (1, Operand.tmp 22)], type := 82, pos := "ref.go:26", after := #[{ on := 1, ground := Ground.data }, { on := 3, ground := Ground.data }], guard := none }) (by kernel_rfl) rfl (fun K hK => ?_)
      rw [if_pos (by rfl)]
      go_simp
      generalize hU : World.alloc _ _ = U
      have hU0 : U.heap[w2.heap.size]? = some (.cells #[.string t1, .string t2] 9 (0, 0)) := by rw [← hU]; exact heap_alloc_new _ _
      have hS3 := hS2.trans ((show Below w2.heap.size w2 U by rw [← hU]; exact (Below.refl _ _).alloc (Nat.le_refl _) _).mono hS2.size)
      clear hU
      refine hK.out _ _ (fun _ _ => hS3) ?_
      clear hK K
      try simp only [Act.put, List.setIfInBounds_toArray, List.set_cons_zero, List.set_cons_succ]
      refine ready_f 5 (o := { dst := some 24, op := Op.call { callee := Callee.value (Operand.func 32), args := #[Operand.const (Value.string { data := #[114, 111, 116] }), Operand.tmp 23], argTypes := #[9, 82] }, type := 76, pos := "ref.go:26", after := #[{ on := 4, ground := Ground.data }, { on := 3, ground := Ground.chain }], guard := none }) (by kernel_rfl) rfl (fun K hK => ?_)
      go_simp
      refine (k3 _ _ hU0).out.mono ?_
      rintro e w5 ⟨rfl, hb5⟩
      have hS5 := hS3.trans (hb5.mono hS3.size)
      refine hK.out _ _ (fun _ _ => hS5) ?_
      clear hK K
      try simp only [Act.put, List.setIfInBounds_toArray, List.set_cons_zero, List.set_cons_succ]
      refine ready_f 6 (o := { dst := none, op := Op.store 28 (Operand.tmp 4) (Operand.tmp 24), type := 0, pos := "ref.go:26", after := #[{ on := 5, ground := Ground.data }, { on := 5, ground := Ground.chain }, { on := 0, ground := Ground.phase }, { on := 1, ground := Ground.phase }, { on := 2, ground := Ground.phase }, { on := 3, ground := Ground.phase }, { on := 4, ground := Ground.phase }, { on := 5, ground := Ground.phase }], guard := none }) (by kernel_rfl) rfl (fun K hK => ?_)
      refine Sh.step_store_own rfl 28 (.tmp 4) (.tmp 24) rfl (w.heap.size + 1) rfl (u8s h).toArray rfl 28 _ ((hS5.block _ (lt_heap Y1.out)).trans Y1.out) hi HZ.out (all_one (u8s_one _)) rfl ?_
      refine hK.out _ _ (fun h => absurd (by decide) h) ?_
      clear hK K
      refine done_f (by kernel_rfl) ?_ _
      have z1 := setRow_heap w5 (w.heap.size + 1) _ (u8s h).toArray _ _ ((hS5.block _ (lt_heap Y1.out)).trans Y1.out)
      have zb := Below.setRow' (g := w.heap.size + 1) (YB.out.trans (hS5.mono YB.out.size)) (by omega) (u8s h).toArray
      generalize World.setRow w5 _ _ = Z at *
      have Z1 := hide1 z1
      have ZB := hide1 zb
      clear hS5 z1 zb
      go_wp2
      refine ret_row Tryd.results9 (w.heap.size + 1) 28 (u8s h).toArray rfl Z1.out Tryd.underlying28 hi rfl ⟨rfl, ZB.out⟩
end Go.Proofs.YtlkkninnfiaedaaDoor.Ro
