/- Pure: the document's reckoning comes to the program's. The document's Sum. -/
import Derived.Test.YtlkkninnfiaedaaDoorJ28
import Derived.Test.YtlkkninnfiaedaaDoorJ29
namespace Go.Proofs.YtlkkninnfiaedaaDoor.Sh
open Go.RowKit

def chainP (l : List Nat) : Nat → List Nat
  | 0 => FIRST
  | n + 1 => comp ROOTS (chainP l n) (wordsOf (blockAt l n))
def refP (l : List Nat) : List Nat := dig (chainP (padP l) ((padP l).length / 64))

theorem addW_comm (g h : List Nat) : addW g h = addW h g := by
  unfold addW
  apply List.map_congr_left
  intro i _
  rw [Nat.add_comm]
theorem addW_assoc (f g h : List Nat) : addW (addW f g) h = addW f (addW g h) := by
  apply at0_ext
  · rw [addW_length, addW_length]
  · intro i hi
    rw [addW_length] at hi
    rw [at0_addW hi, at0_addW hi, at0_addW hi, at0_addW hi]
    omega
theorem first_zero : FIRST = addW FIRST (zeros 8) := by decide +kernel
theorem chain_grow (l : List Nat) : ∀ n, chainP l n = addW FIRST (growN l n)
  | 0 => first_zero
  | n + 1 => by rw [chainP, growN, chain_grow l n, comp, foldP, addW_assoc, addW_comm (growN l n) FIRST]
theorem chain_length (l : List Nat) (n : Nat) : (chainP l n).length = 8 := by rw [chain_grow, addW_length]
theorem chain_lt (l : List Nat) (n : Nat) : Lt 4294967296 (chainP l n) := by rw [chain_grow]; exact addW_lt _ _

theorem lenTo_eight (n : Nat) : lenTo n 8 = [lenB n 0, lenB n 1, lenB n 2, lenB n 3, lenB n 4, lenB n 5, lenB n 6, lenB n 7] := rfl
theorem padP_length (l : List Nat) : (padP l).length = l.length + 9 + padZ l.length := by
  rw [padP, lenTo_eight, List.length_append, List.length_append, List.length_cons, zeros_length]
  simp
  omega

theorem wordsOf_congr {b c : List Nat} (h : ∀ j, j < 64 → at0 b j = at0 c j) : wordsOf b = wordsOf c := by
  unfold wordsOf
  apply List.map_congr_left
  intro i hi
  rw [List.mem_range] at hi
  unfold wordAt
  rw [h _ (by omega), h _ (by omega), h _ (by omega), h _ (by omega)]
theorem at0_pad (a : List Nat) (z j : Nat) : at0 (a ++ zeros z) j = at0 a j := by
  by_cases h : j < a.length
  · exact at0_append_left h
  · rw [at0_append_right (by omega), at0_none (l := a) (by omega)]
    exact at0_replicate
theorem at0_block {l : List Nat} {n j : Nat} (h : j < 64) : at0 (blockAt l n) j = at0 l (64 * n + j) := by
  rw [blockAt, at0_take h, at0_drop]

theorem pad_split (l : List Nat) : padP l = l.take (64 * (l.length / 64)) ++ (tailP l ++ zeros (padZ l.length) ++ lenTo l.length 8) := by
  have e := List.take_append_drop (64 * (l.length / 64)) l
  rw [padP, tailP]
  generalize zeros (padZ l.length) = Z
  generalize lenTo l.length 8 = L
  generalize l.take (64 * (l.length / 64)) = t at *
  generalize l.drop (64 * (l.length / 64)) = d at *
  rw [← e]
  simp
theorem pad_front (l : List Nat) (j : Nat) (h : j < l.length % 64 + 1 + padZ l.length) : at0 (padP l) (64 * (l.length / 64) + j) = at0 (tailP l) j := by
  have e : (l.take (64 * (l.length / 64))).length = 64 * (l.length / 64) := by rw [List.length_take]; omega
  rw [pad_split, at0_append_right (by omega), e, Nat.add_sub_cancel_left, at0_append_left (by rw [List.length_append, tailP_length, zeros_length]; exact h), at0_pad]
theorem pad_end (l : List Nat) (i : Nat) (_h : i < 8) : at0 (padP l) (64 * (l.length / 64) + (l.length % 64 + 1 + padZ l.length + i)) = at0 (lenTo l.length 8) i := by
  have e : (l.take (64 * (l.length / 64))).length = 64 * (l.length / 64) := by rw [List.length_take]; omega
  rw [pad_split, at0_append_right (by omega), e, Nat.add_sub_cancel_left, at0_append_right (by rw [List.length_append, tailP_length, zeros_length]; omega), List.length_append, tailP_length, zeros_length, Nat.add_sub_cancel_left]

theorem len_hi (n : Nat) : be (lenB n 0) (lenB n 1) (lenB n 2) (lenB n 3) = n * 8 % 18446744073709551616 / 4294967296 := by
  unfold be lenB
  simp only [Nat.reduceSub, Nat.reduceMul, Nat.reducePow]
  omega
theorem len_lo (n : Nat) : be (lenB n 4) (lenB n 5) (lenB n 6) (lenB n 7) = n * 8 % 18446744073709551616 % 4294967296 := by
  unfold be lenB
  simp only [Nat.reduceSub, Nat.reduceMul, Nat.reducePow]
  omega

theorem words_end {n : Nat} {b c : List Nat} (hc : c.length = 16) (h1 : ∀ k, k < 14 → wordAt b (4 * k) = at0 c k) (h2 : ∀ i, i < 8 → at0 b (56 + i) = at0 (lenTo n 8) i) : wordsOf b = withLen n c := by
  apply at0_ext
  · rw [wordsOf_length, withLen, List.length_set, List.length_set, hc]
  · intro k hk
    rw [wordsOf_length] at hk
    rw [wordsOf, at0_map_range hk]
    have a0 := h2 0 (by omega)
    have a1 := h2 1 (by omega)
    have a2 := h2 2 (by omega)
    have a3 := h2 3 (by omega)
    have a4 := h2 4 (by omega)
    have a5 := h2 5 (by omega)
    have a6 := h2 6 (by omega)
    have a7 := h2 7 (by omega)
    rw [lenTo_eight] at a0 a1 a2 a3 a4 a5 a6 a7
    rcases Nat.lt_or_ge k 14 with hk14 | hk14
    · rw [h1 k hk14]
      unfold withLen at0
      rw [List.getElem?_set_ne (by omega), List.getElem?_set_ne (by omega)]
    · have : k = 14 ∨ k = 15 := by omega
      rcases this with rfl | rfl
      · show be (at0 b (56 + 0)) (at0 b (56 + 1)) (at0 b (56 + 2)) (at0 b (56 + 3)) = _
        rw [a0, a1, a2, a3]
        refine (len_hi n).trans ?_
        unfold withLen at0
        rw [List.getElem?_set_ne (by omega), List.getElem?_set_self (by omega)]
        rfl
      · show be (at0 b (56 + 4)) (at0 b (56 + 5)) (at0 b (56 + 6)) (at0 b (56 + 7)) = _
        rw [a4, a5, a6, a7]
        refine (len_lo n).trans ?_
        unfold withLen at0
        rw [List.getElem?_set_self (by rw [List.length_set]; omega)]
        rfl

theorem words_at {l : List Nat} {k : Nat} (h : k < 16) : at0 (wordsOf l) k = wordAt l (4 * k) := by rw [wordsOf, at0_map_range h]
theorem grow_pad (l : List Nat) : growN (padP l) (l.length / 64) = grownP l := by
  have e : padP l = l ++ (128 :: zeros (padZ l.length) ++ lenTo l.length 8) := by rw [padP, List.append_assoc]
  rw [e, growN_app (by omega)]
  rfl

theorem ref_sum (l : List Nat) : refP l = sumP l := by
  have hz : padZ l.length = (119 - l.length % 64) % 64 := rfl
  have hL := padP_length l
  unfold refP sumP
  by_cases h : l.length % 64 < 56
  · have e : wordsOf (blockAt (padP l) (l.length / 64)) = withLen l.length (wordsOf (tailP l)) := by
      refine words_end (wordsOf_length _) (fun k hk => ?_) (fun i hi => ?_)
      · rw [words_at (by omega)]
        unfold wordAt
        rw [at0_block (by omega), at0_block (by omega), at0_block (by omega), at0_block (by omega), pad_front l _ (by omega), pad_front l _ (by omega), pad_front l _ (by omega), pad_front l _ (by omega)]
      · rw [at0_block (by omega), ← pad_end l i hi, show l.length % 64 + 1 + padZ l.length = 56 by omega]
    rw [if_pos h, show (padP l).length / 64 = l.length / 64 + 1 by omega, chain_grow, growN, grow_pad, e]
  · have e1 : wordsOf (blockAt (padP l) (l.length / 64)) = wordsOf (tailP l) := by
      apply wordsOf_congr
      intro j hj
      rw [at0_block hj, pad_front l j (by omega)]
    have e2 : wordsOf (blockAt (padP l) (l.length / 64 + 1)) = withLen l.length (zeros 16) := by
      refine words_end (by simp [zeros]) (fun k hk => ?_) (fun i hi => ?_)
      · have hb : ∀ j, j < 56 → at0 (blockAt (padP l) (l.length / 64 + 1)) j = 0 := fun j hj => by
          rw [at0_block (by omega), show 64 * (l.length / 64 + 1) + j = 64 * (l.length / 64) + (64 + j) by omega, pad_front l _ (by omega)]
          exact at0_none (by rw [tailP_length]; omega)
        unfold wordAt
        rw [hb _ (by omega), hb _ (by omega), hb _ (by omega), hb _ (by omega)]
        exact at0_replicate.symm
      · rw [at0_block (by omega), ← pad_end l i hi, show 64 * (l.length / 64 + 1) + (56 + i) = 64 * (l.length / 64) + (l.length % 64 + 1 + padZ l.length + i) by omega]
    rw [if_neg h, show (padP l).length / 64 = l.length / 64 + 1 + 1 by omega, chain_grow, growN, growN, grow_pad, e1, e2]

theorem flat_at : ∀ (h : List Nat) (i : Nat), i < 4 * h.length → at0 (h.flatMap bytesP) i = at0 h (i / 4) / 2 ^ (24 - 8 * (i % 4)) % 256
  | [], i, hi => by simp at hi
  | x :: h, i, hi => by
    rw [List.length_cons] at hi
    rw [List.flatMap_cons]
    rcases Nat.lt_or_ge i 4 with h4 | h4
    · rw [at0_append_left (by simpa [bytesP] using h4)]
      have : i = 0 ∨ i = 1 ∨ i = 2 ∨ i = 3 := by omega
      rcases this with rfl | rfl | rfl | rfl <;> simp [bytesP, at0]
    · rw [at0_append_right (by simpa [bytesP] using h4), show (bytesP x).length = 4 from rfl, flat_at h (i - 4) (by omega)]
      rw [show i / 4 = (i - 4) / 4 + 1 by omega, show (i - 4) % 4 = i % 4 by omega]
      rfl

def digTo (h : List Nat) (i : Nat) : List Nat := (dig h).take i ++ zeros (32 - i)
theorem digTo_length {h : List Nat} (hl : h.length = 8) {i : Nat} (hi : i ≤ 32) : (digTo h i).length = 32 := by
  rw [digTo, List.length_append, zeros_length, List.length_take, dig_length hl]; omega
theorem digTo_set {h : List Nat} (hl : h.length = 8) {i : Nat} (hi : i < 32) : (digTo h i).set i (at0 h (i / 4) / 2 ^ (24 - 8 * (i % 4)) % 256) = digTo h (i + 1) := by
  have e : ((dig h).take i).length = i := by rw [List.length_take, dig_length hl]; omega
  rw [← flat_at h i (by omega)]
  unfold digTo
  rw [List.set_append_right _ _ (by omega), e, Nat.sub_self, show 32 - i = (32 - (i + 1)) + 1 by omega, zeros, List.replicate_succ, List.set_cons_zero, List.take_add_one, get_at0 (by rw [dig_length hl]; omega)]
  simp [zeros, dig]
theorem digTo_all {h : List Nat} (hl : h.length = 8) : digTo h 32 = dig h := by
  rw [digTo, List.take_of_length_le (by rw [dig_length hl]; omega)]
  simp [zeros]

end Go.Proofs.YtlkkninnfiaedaaDoor.Sh

namespace Go.Proofs.YtlkkninnfiaedaaDoor.Sh
open Go.RowKit
set_option maxRecDepth 100000
attribute [local go_sem] not_any

theorem first_row : (u32s FIRST).toArray = #[.int .u32 1779033703, .int .u32 3144134277, .int .u32 1013904242, .int .u32 2773480762, .int .u32 1359893119, .int .u32 2600822924, .int .u32 528734635, .int .u32 1541459225] := rfl
theorem first_length : FIRST.length = 8 := rfl
theorem first_lt : Lt 4294967296 FIRST := by unfold Lt; decide +kernel
theorem roots_length : ROOTS.length = 64 := by decide +kernel
theorem roots_lt : Lt 4294967296 ROOTS := by unfold Lt; decide +kernel

set_option maxHeartbeats 4000000 in
theorem rsum_any (s : ByteArray) (w : World) (hz : s.size ≤ 4096) :
    Calls Tryd.prog 53 #[.string s] w fun e w' => e = .returned (arr8 (sumP (nums s))) ∧ Below w.heap.size w w' := by
  have hpz := padP_length (nums s)
  have hpd : padZ (nums s).length = (119 - (nums s).length % 64) % 64 := rfl
  rw [nums_length] at hpz hpd
  rw [← ref_sum]
  go_enter Tryd.func53, Tryd.ntmps53
  go_wp2_with fail
  generalize hW : World.alloc w _ = W
  have h1 : W.heap[w.heap.size]? = some (row8 76 (zeros 32)) := by rw [← hW]; exact heap_alloc_new _ _
  have h2 : Below w.heap.size w W := by rw [← hW]; exact (Below.refl _ _).alloc (Nat.le_refl _) _
  have H1 := hide1 h1
  have H2 := hide1 h2
  clear hW h1 h2
  refine (rounds_any _).mono ?_
  rintro e w1 ⟨kv, rfl, ho, hb⟩
  have hk : Rd w1 kv ROOTS := rd_own ho (by rw [roots_length]; omega)
  have HK := hide1 hk
  have HB := hide1 hb
  clear ho hb hk
  go_wp2_with fail
  generalize hY : World.alloc w1 _ = Y
  have hy : Rd Y (.slice (some ⟨w1.heap.size, 0, none⟩) 8 8) FIRST := by
    rw [← hY]
    have := rd_new w1 FIRST
    rw [first_row, first_length] at this
    exact this
  have hby : Below W.heap.size W Y := by rw [← hY]; exact HB.out.alloc HB.out.size _
  have hky : Rd Y kv ROOTS := HK.out.below (by rw [← hY]; exact (Below.refl _ _).alloc (Nat.le_refl _) _)
  have HY := hide1 hy
  have HBY := hide1 hby
  have HKY := hide1 hky
  clear hY hy hby hky HB HK
  refine (padded_any s _ hz).mono ?_
  rintro e w2 ⟨p, rfl, hp, hb2⟩
  have hps : p.size = (padP (nums s)).length := nums_size hp
  obtain ⟨nb, hnb⟩ : ∃ nb, nb = (padP (nums s)).length / 64 := ⟨_, rfl⟩
  have hp64 : p.size = 64 * nb := by omega
  have hnb' : nb ≤ 100 := by omega
  have HP : Shy (nums p = padP (nums s)) := ⟨hp⟩
  have HR : Shy (refP (nums s) = dig (chainP (padP (nums s)) nb)) := ⟨by rw [refP, hnb]⟩
  have HB2 : Hid (Below W.heap.size W w2) := HBY.out.trans (hb2.mono HBY.out.size)
  have HY2 : Hid (Rd w2 (.slice (some ⟨w1.heap.size, 0, none⟩) 8 8) FIRST) := HY.out.below hb2
  have HK2 : Hid (Rd w2 kv ROOTS) := HKY.out.below hb2
  clear hp hb2 hps hnb hpz hpd HY HBY HKY
  have HPS : Shy (p.size = 64 * nb) := ⟨hp64⟩
  go_wp2
  go_loopw [4, 6] (fun v4 v6 wr => ∃ n : Nat, n ≤ nb ∧ v6 = .int .i64 (64 * n : Nat) ∧ Rd wr v4 (chainP (padP (nums s)) n) ∧ Below w2.heap.size w2 wr) (fun _ v6 _ => 64 * nb - (intOf v6).toNat)
  case atStart => exact ⟨0, Nat.zero_le _, rfl, HY2.out, Below.refl _ _⟩
  case round =>
    obtain ⟨n, hn, rfl, hr, hb⟩ := hrel
    obtain ⟨i, hi⟩ : ∃ i, i = 64 * n := ⟨_, rfl⟩
    have HI : Shy (i = 64 * n) := ⟨hi⟩
    rw [← hi]
    by_cases hlt : n < nb
    · obtain ⟨j, hj⟩ : ∃ j, j = i + 64 := ⟨_, rfl⟩
      have ej : (i : Int) + 64 = (j : Int) := by omega
      have wj : IntKind.i64.wrap (j : Int) = (j : Int) := by rw [IntKind.wrap_i64]; omega
      have lij : (i : Int) < (p.size : Int) := by omega
      have g1 : (i : Int) ≤ (j : Int) := by omega
      have g2 : (j : Int) ≤ (p.size : Int) := by omega
      have g3 : i ≤ j := by omega
      have g4 : j ≤ p.size := by omega
      have hnx : nums (p.extract i j) = blockAt (padP (nums s)) n := by rw [nums_extract, HP.out, hj, hi, Nat.add_sub_cancel_left]; rfl
      have hnz : (p.extract i j).size = 64 := by rw [nums_size rfl, hnx, blockAt, List.length_take, List.length_drop, ← HP.out, nums_length, hp64]; omega
      have hC := hide1 (with_any (chainP (padP (nums s)) n) ROOTS (p.extract i j) wr _ kv hr (HK2.out.below hb) (chain_length _ _) roots_length (chain_lt _ _) roots_lt hnz)
      have HNX : Shy (nums (p.extract i j) = blockAt (padP (nums s)) n) := ⟨hnx⟩
      have HB := hide1 hb
      have HJ : Shy (j = i + 64) := ⟨hj⟩
      clear hr hb hnx hnz hj hi hp64
      go_wp2_with fail
      refine hC.out.mono ?_
      rintro e w5 ⟨v5, rfl, hr5, hb5⟩
      rw [HNX.out] at hr5
      have HR5 := hide1 hr5
      have HB5 : Hid (Below w2.heap.size w2 w5) := HB.out.trans (hb5.mono HB.out.size)
      clear hr5 hb5 hC
      go_wp2
      go_roundw
      case rel => exact ⟨n + 1, by omega, by rw [HJ.out, HI.out]; congr 1, HR5.out, HB5.out⟩
      case measure => have h1 := HJ.out; have h2 := HI.out; simp [intOf]; omega
    · have hnn : n = nb := by omega
      obtain ⟨Z, hZ⟩ : ∃ Z, Z = wr := ⟨_, rfl⟩
      subst hZ
      subst hnn
      have li : ¬ (i : Int) < (p.size : Int) := by omega
      obtain ⟨gh, ch, rfl, hgh, hch⟩ := hr.val
      rw [chain_length] at hch ⊢
      obtain ⟨h, hh⟩ : ∃ h, h = chainP (padP (nums s)) n := ⟨_, rfl⟩
      rw [← hh] at hch HR
      have hhl : h.length = 8 := by rw [hh]; exact chain_length _ _
      have hht : Lt 4294967296 h := by rw [hh]; exact chain_lt _ _
      have HHL := hide1 hhl
      have HHT := hide1 hht
      have HG := hide1 hgh
      have HCH : Hid (∀ j, j < 8 → ∀ w' : World, Below Z.heap.size Z w' → w'.cell? ⟨gh, j, none⟩ = some (.int .u32 (at0 h j : Nat))) := fun j hj w' hb' => (hb'.cell (p := ⟨gh, j, none⟩) hgh).trans (hch j hj)
      have HBB : Hid (Below W.heap.size W Z) := HB2.out.trans (hb.mono HB2.out.size)
      clear hr hb hh hhl hht hgh hch hi HI HPS hp64 HP HY2 HK2 HB2
      go_wp2
      generalize hV : World.alloc Z _ = V
      have v1 : V.heap[Z.heap.size]? = some (row8 76 (digTo h 0)) := by rw [← hV]; exact heap_alloc_new _ _
      have v2 : Below Z.heap.size Z V := by rw [← hV]; exact (Below.refl _ _).alloc (Nat.le_refl _) _
      have V1 := hide1 v1
      have V2 := hide1 v2
      clear hV v1 v2
      go_loopw [8] (fun v8 wr => ∃ m : Nat, m ≤ 32 ∧ v8 = .int .i64 m ∧ wr.heap[Z.heap.size]? = some (row8 76 (digTo h m)) ∧ Below Z.heap.size Z wr) (fun v8 _ => 32 - (intOf v8).toNat)
      case atStart => exact ⟨0, Nat.zero_le _, rfl, V1.out, V2.out⟩
      case round =>
        obtain ⟨m, hm, rfl, hrow, hbe⟩ := hrel
        by_cases hlt2 : m < 32
        · obtain ⟨q, hq⟩ : ∃ q, q = m / 4 := ⟨_, rfl⟩
          obtain ⟨r, hr⟩ : ∃ r, r = m % 4 := ⟨_, rfl⟩
          obtain ⟨t, ht⟩ : ∃ t, t = 8 * r := ⟨_, rfl⟩
          obtain ⟨u, hu⟩ : ∃ u, u = 24 - t := ⟨_, rfl⟩
          have dq : (m : Int) / 4 = (q : Int) := by omega
          have dq' : Int.tdiv (m : Int) 4 = (q : Int) := by rw [Int.tdiv_eq_ediv_of_nonneg (by omega)]; exact dq
          have wq : IntKind.i64.wrap (q : Int) = (q : Int) := by rw [IntKind.wrap_i64]; omega
          have dr : (m : Int) % 4 = (r : Int) := by omega
          have dr' : Int.tmod (m : Int) 4 = (r : Int) := by rw [Int.tmod_eq_emod_of_nonneg (by omega)]; exact dr
          have Z' : IntKind.i64.wrap (r : Int) = (r : Int) := by rw [IntKind.wrap_i64]; omega
          have dt : 8 * (r : Int) = (t : Int) := by omega
          have wt : IntKind.i64.wrap (t : Int) = (t : Int) := by rw [IntKind.wrap_i64]; omega
          have du : 24 - (t : Int) = (u : Int) := by omega
          have wu : IntKind.i64.wrap (u : Int) = (u : Int) := by rw [IntKind.wrap_i64]; omega
          have wu2 : IntKind.u64.wrap (u : Int) = (u : Int) := by rw [IntKind.wrap_u64]; omega
          have hq8 : q < 8 := by omega
          have lq : (q : Int) < 8 := by omega
          have lu : (u : Int) ≤ 24 := by omega
          have cq := HCH.out q hq8 wr hbe
          have hx := HHT.out.at (by omega) q
          have ck := cell8 hrow (j := m) (by rw [digTo_length HHL.out hm]; exact hlt2)
          have fk := frozen_of_row wr Z.heap.size m _ _ hrow
          have HS : Shy ((digTo h m).set m (at0 h q / 2 ^ u % 256) = digTo h (m + 1)) := ⟨by
            have := digTo_set HHL.out hlt2
            rw [← hq, ← hr, ← ht, ← hu] at this
            exact this⟩
          generalize at0 h q = x at cq hx HS
          obtain ⟨z, hz'⟩ : ∃ z, z = x / 2 ^ u % 256 := ⟨_, rfl⟩
          have ez : (x : Int) / 2 ^ u % 256 = (z : Int) := by
            rw [hz', Int.natCast_emod, Int.natCast_ediv, Int.natCast_pow]; rfl
          rw [← hz'] at HS
          have HRow := hide1 hrow
          have HBE := hide1 hbe
          clear hq hr ht hu hrow hbe hz'
          go_wp2
          go_roundw
          case rel => exact ⟨m + 1, by omega, by go_num, by rw [← HS.out]; exact set8 HRow.out, HBE.out.setCell (Nat.le_refl _) _⟩
          case measure => simp [intOf]; omega
        · have : m = 32 := by omega
          subst this
          rw [digTo_all HHL.out] at hrow
          have hl := dig_length HHL.out
          have hW2 : wr.heap[w.heap.size]? = some (row8 76 (zeros 32)) := (hbe.block _ (by have := lt_heap H1.out; have := HBB.out.size; omega)).trans ((HBB.out.block _ (lt_heap H1.out)).trans H1.out)
          have HRow := hide1 hrow
          have HBE := hide1 hbe
          have HW2 := hide1 hW2
          have HD := hide1 hl
          clear hrow hbe hW2 hl
          go_wp2_with (first | (refine wpList_load_row rfl 76 (.tmp 7) rfl Z.heap.size rfl 76 (u8s (dig h)).toArray (0, 0) _ HRow.out Tryd.underlying76 rfl (by rw [show (u8s (dig h)).toArray.size = 32 by simp [u8s, HD.out]]; kernel_rfl) ?_) | (refine wpList_store_own rfl 76 (.tmp 2) (.tmp 45) rfl w.heap.size rfl (u8s (dig h)).toArray rfl 76 _ HW2.out (by rw [show (u8s (dig h)).toArray.size = 32 by simp [u8s, HD.out]]; kernel_rfl) (by simp [u8s, HD.out, zeros]) (all_one (u8s_one _)) ?_))
          refine ret_row Tryd.results53 w.heap.size 76 (u8s (dig h)).toArray rfl (setRow_heap _ _ _ _ _ _ HW2.out) Tryd.underlying76 (by rw [show (u8s (dig h)).toArray.size = 32 by simp [u8s, HD.out]]; kernel_rfl) rfl ⟨by rw [HR.out]; rfl, ?_⟩
          exact Below.setRow' (H2.out.trans ((HBB.out.trans (HBE.out.mono HBB.out.size)).mono H2.out.size)) (Nat.le_refl _) _
end Go.Proofs.YtlkkninnfiaedaaDoor.Sh
