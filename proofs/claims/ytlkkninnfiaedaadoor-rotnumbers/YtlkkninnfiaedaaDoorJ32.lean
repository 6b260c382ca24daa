/- Bits made word by word, by a function that tells each word. Not; Xor and And. Xor, And, Equal. Lists held against each other. -/
import Derived.Test.YtlkkninnfiaedaaDoorJ31
namespace Go.Proofs.YtlkkninnfiaedaaDoor.T
open Go.RowKit
set_option maxRecDepth 100000
attribute [local go_sem] not_any mf_any

/- the first k words told, the others 0 -/
def tells (F : Nat → Nat) (m k : Nat) : List Nat := (List.range m).map (fun i => if i < k then F i else 0)

theorem tells_length (F : Nat → Nat) (m k : Nat) : (tells F m k).length = m := by simp [tells]
theorem tells_get {F : Nat → Nat} {m k j x : Nat} (h : (tells F m k)[j]? = some x) : j < m ∧ x = if j < k then F j else 0 := by
  unfold tells at h
  rw [List.getElem?_map] at h
  by_cases hj : j < m
  · rw [List.getElem?_range hj] at h
    exact ⟨hj, (Option.some.inj h).symm⟩
  · rw [List.getElem?_eq_none (by simp; omega)] at h
    cases h
theorem tells_zero (F : Nat → Nat) (m : Nat) : tells F m 0 = List.replicate m 0 := by
  apply List.ext_getElem
  · simp [tells]
  · intro j h1 h2
    simp [tells]
theorem tells_succ (F : Nat → Nat) {m k : Nat} (_h : k < m) : tells F m (k + 1) = (tells F m k).set k (F k) := by
  apply List.ext_getElem
  · simp [tells]
  · intro j h1 h2
    rw [List.getElem_set]
    simp only [tells, List.getElem_map, List.getElem_range]
    by_cases hj : k = j
    · subst hj
      simp
    · have : (j < k + 1) ↔ j < k := by omega
      simp [hj, this]

set_option maxHeartbeats 4000000 in
theorem made_any (V : FuncId) (hV : V = 110) (cap : Array Value) (w : World) (n : Nat) (F : Nat → Nat) (l : List Bool) (hn : n ≤ 4194304) (hl : l.length = n)
    (hF : ∀ i, i < need n 64 → F i < 18446744073709551616 ∧ ∀ j, j < 64 → 64 * i + j < n → (F i).testBit j = l.getD (64 * i + j) false)
    (hcall : ∀ i W', i < need n 64 → Below w.heap.size w W' → Calls Tryd.prog V (#[.int .i64 (i : Nat)] ++ cap) W' fun e w'' => e = .returned (.int .u64 (F i : Nat)) ∧ ∃ q os, w'' = Sort.grow (W'.drewN q) os) :
    Calls Tryd.prog 107 #[.int .i64 n, .func (.func V) #[] cap] w fun e w' => ∃ a, e = .returned (.agg #[.int .i64 n, .slice a (need n 64) (need n 64)]) ∧ Vc w.heap.size w' n a l ∧ Below w.heap.size w w' := by
  have hB := fun w => hide1 (blank_any n w hn)
  have hm : need n 64 ≤ 65536 := by rw [need64]; omega
  have HF := hide1 hF
  have HC := hide1 hcall
  have HL := hide1 hl
  have hT := fun b w a ws h => hide1 (trim_any b w n a ws hn h)
  have hen : ∀ args w, (callFunc V args).run Tryd.prog w = .ok (.enter V args) w := by
    subst hV
    all_goals (intro args w; kernel_rfl)
  clear hF hcall hl
  go_enter Tryd.func107, Tryd.ntmps107
  go_wp2_with (first | (go_at_call 58; refine (hB _).out.mono ?_; rintro e w1 ⟨a, rfl, hv1, hb⟩))
  have hbx := after_alloc hb
  have l0 := lt_heap hbx
  have HG : Hid (∀ g, a = some ⟨g, 0, none⟩ → w.heap.size < g ∧ g < w1.heap.size) := by
    intro g hg
    have := hv1.blk g (by rw [hg]; rfl)
    simp at this
    exact ⟨by omega, this.2⟩
  go_loopw [12] (fun i wr => ∃ k : Nat, k ≤ need n 64 ∧ i = .int .i64 k ∧ Wr (w.heap.size + 1) wr n a (tells F (need n 64) k) ∧ wr.heap[w.heap.size]? = some (.cells #[.int .i64 0, .slice none 0 0] 41 (0, 0)) ∧
      wr.heap[w1.heap.size]? = some (.cells #[.int .i64 n, .slice a (need n 64) (need n 64)] 41 (0, 0)) ∧ Below w.heap.size w wr) (fun i _ => need n 64 - (intOf i).toNat)
  case atStart =>
    refine ⟨0, Nat.zero_le _, rfl, ?_, (Below.heap_alloc _ _ _ l0).trans hbx, heap_alloc_new _ _, (below_after hb).alloc (by omega) _⟩
    rw [tells_zero, ← chunks_falses]
    have := (hv1.alloc (.cells #[.int .i64 n, .slice a (need n 64) (need n 64)] 41)).wr
    simpa using this
  case round =>
    obtain ⟨k, hk, rfl, hW, hs, ht, hB'⟩ := hrel
    by_cases hlt : k < need n 64
    · obtain ⟨g, rfl, hbg, hg⟩ := hW.block hlt
      have hgg := HG.out g rfl
      obtain ⟨y, HY⟩ : ∃ y, (tells F (need n 64) k)[k]? = some y := ⟨_, List.getElem?_eq_getElem (show k < (tells F (need n 64) k).length by rw [tells_length]; exact hlt)⟩
      have HCd : Hid (Calls Tryd.prog V (#[.int .i64 (k : Nat)] ++ cap) wr.drew fun e w2 => e = .returned (.int .u64 (F k : Nat)) ∧ w2.heap[w1.heap.size]? = some (.cells #[.int .i64 n, .slice (some ⟨g, 0, none⟩) (need n 64) (need n 64)] 41 (0, 0)) ∧
          w2.heap[w.heap.size]? = some (.cells #[.int .i64 0, .slice none 0 0] 41 (0, 0)) ∧ w2.heap[g]? = some (wrow (tells F (need n 64) k)) ∧ Below w.heap.size w w2 ∧
          w2.cell? ⟨w1.heap.size, 1, none⟩ = some (.slice (some ⟨g, 0, none⟩) (need n 64) (need n 64)) ∧ w2.cell? ⟨g, k, none⟩ = some (.int .u64 (y : Nat)) ∧ w2.frozen? ⟨g, k, none⟩ = false) := by
        refine (HC.out k wr.drew hlt hB'.drew).mono ?_
        rintro e w2 ⟨rfl, hq⟩
        have hb2 : Below wr.heap.size wr w2 := (Below.refl wr.heap.size wr).drew.trans (gr_below hq)
        have t2 := (hb2.block _ (lt_heap ht)).trans ht
        have g2 := (hb2.block _ (lt_heap hg)).trans hg
        exact ⟨rfl, t2, (hb2.block _ (lt_heap hs)).trans hs, g2, hB'.trans (hb2.mono hB'.size), (box2 t2).2.1, row_cell g2 HY, frozen_of_row w2 g k _ _ g2⟩
      have HS := hide1 hs
      have HT := hide1 ht
      have HW := hide1 hW
      have HGk := hide1 hg
      have HFk := hide1 (HF.out k hlt)
      obtain ⟨d0, d1, _, _, ltt⟩ := box2 ht
      clear hs ht hW hg HY
      go_wp2
      subst hV
      all_goals
        go_region_with (first | (go_at_call 110; refine HCd.out.mono ?_; rintro e w2 ⟨rfl, t2, s2, g2, b2, c1, c2, c3⟩; have T2 := hide1 t2; have S2 := hide1 s2; have G2 := hide1 g2; clear t2 s2 g2))
        all_goals
          go_wp2
          go_roundw
          case rel =>
            refine ⟨k + 1, by omega, by go_num, ?_, ?_, ?_, ?_⟩
            · rw [tells_succ F hlt]
              exact Wr.set ⟨by rw [tells_length], HW.out.lt, .inr ⟨g, rfl, hbg, G2.out⟩⟩ HFk.out.1
            · exact (Below.heap_setCell _ _ _ _ (by simp; omega)).trans S2.out
            · exact (Below.heap_setCell _ _ _ _ (by simp; omega)).trans T2.out
            · exact b2.setCell (by simp; omega) _
          case measure => simp [intOf]; omega
    · have : k = need n 64 := by omega
      subst this
      have HS := hide1 hs
      have HT := hide1 ht
      have HW := hide1 hW
      obtain ⟨d0, d1, _, _, ltt⟩ := box2 ht
      clear hs ht hW
      have HTr := hide1 (show Calls Tryd.prog 117 #[.agg #[.int .i64 n, .slice a (need n 64) (need n 64)]] wr fun e w2 => e = .returned (.tuple #[]) ∧ Vc (w.heap.size + 1) w2 n a l ∧ w2.heap[w1.heap.size]? = some (.cells #[.int .i64 n, .slice a (need n 64) (need n 64)] 41 (0, 0)) ∧
          w2.heap[w.heap.size]? = some (.cells #[.int .i64 0, .slice none 0 0] 41 (0, 0)) ∧ Below w.heap.size w w2 by
        refine (hT _ _ _ _ HW.out).out.mono ?_
        rintro e w2 ⟨rfl, hr2, hgr⟩
        have hk : ∀ k, blk a = some k → w.heap.size + 1 ≤ k ∧ k < w1.heap.size := fun k hk => by
          have h1 := (HW.out.blk k hk).1
          cases a with
          | none => cases hk
          | some p =>
            obtain ⟨_, _, h | ⟨g, h3, h4, h5⟩⟩ := HW.out
            · cases h.2
            · cases h3
              cases hk
              exact ⟨h1, (HG.out g rfl).2⟩
        refine ⟨rfl, ?_, (hgr.block _ (lt_heap HT.out) (fun e => by have := hk _ e.symm; omega)).trans HT.out, (hgr.block _ (lt_heap HS.out) (fun e => by have := hk _ e.symm; omega)).trans HS.out, hB'.grown hgr hB'.size (fun k e => by have := hk _ e; omega)⟩
        refine Wr.vc ?_ HL.out
        rw [← trimmed_spec (n := n) (ws := tells F (need n 64) (need n 64)) HL.out (tells_length _ _ _)]
        · exact hr2
        · intro k x hx
          obtain ⟨h1, h2⟩ := tells_get hx
          rw [if_pos h1] at h2
          rw [h2]
          exact HF.out k h1)
      go_wp2_with (first | (go_at_call 117; refine HTr.out.mono ?_; rintro e w2 ⟨rfl, hv2, t2, s2, b2⟩; have V2 := hide1 hv2; obtain ⟨q0, q1, q2, q3, q4⟩ := box2 t2; have S2 := hide1 s2; obtain ⟨r0, r1, r2, r3, r4⟩ := box2 s2; clear hv2 t2 s2))
      refine ret_vec Tryd.results107 w.heap.size _ _ rfl (set_box2 S2.out) rfl ⟨_, rfl, ?_, ?_⟩
      · exact ((V2.out.setCell (by simp) _).setCell (by simp) _).mono (by omega)
      · exact (b2.setCell (Nat.le_refl _) _).setCell (Nat.le_refl _) _

end Go.Proofs.YtlkkninnfiaedaaDoor.T

namespace Go.Proofs.YtlkkninnfiaedaaDoor.T
open Go.RowKit
set_option maxRecDepth 100000
attribute [local go_sem] not_any mf_any

theorem not_testBit {x j : Nat} (hx : x < 18446744073709551616) (hj : j < 64) : (18446744073709551615 - x).testBit j = !x.testBit j := by
  have := Nat.testBit_two_pow_sub_succ (x := x) (n := 64) hx j
  rw [show 2 ^ 64 - (x + 1) = 18446744073709551615 - x by omega] at this
  rw [this]
  simp [hj]

theorem xor_max {x : Nat} (hx : x < 18446744073709551616) : bits .xor .u64 IntKind.u64.max (x : Int) = ((18446744073709551615 - x : Nat) : Int) := by
  have e : IntKind.u64.max = ((18446744073709551615 : Nat) : Int) := by decide
  rw [e, u64_xor_nat _ _ (by omega) hx]
  congr 1
  apply Nat.eq_of_testBit_eq
  intro j
  rw [Nat.testBit_xor]
  have h1 : (18446744073709551615 : Nat).testBit j = decide (j < 64) := Nat.testBit_two_pow_sub_one 64 j
  rw [h1]
  by_cases hj : j < 64
  · rw [not_testBit hx hj]
    simp [hj]
  · have h2 : x.testBit j = false := Nat.testBit_lt_two_pow (Nat.lt_of_lt_of_le hx (show 2 ^ 64 ≤ 2 ^ j from Nat.pow_le_pow_right (by omega) (by omega)))
    have h3 : (18446744073709551615 - x).testBit j = false := Nat.testBit_lt_two_pow (Nat.lt_of_lt_of_le (show 18446744073709551615 - x < 2 ^ 64 by omega) (Nat.pow_le_pow_right (by omega) (by omega)))
    simp [hj, h2, h3]

/- what turns two words to one -/
def Turns (V : FuncId) (f : Nat → Nat → Nat) : Prop := ∀ (x y : Nat) (w : World), x < 18446744073709551616 → y < 18446744073709551616 → Calls Tryd.prog V #[.int .u64 (x : Int), .int .u64 (y : Int)] w fun e w' => e = .returned (.int .u64 (f x y : Nat)) ∧ ∃ q os, w' = Sort.grow (w.drewN q) os

theorem xor_turns : Turns 90 (fun x y => x ^^^ y) := by
  intro x y w hx hy
  have h := u64_xor_nat x y hx hy
  go_enter Tryd.func90, Tryd.ntmps90
  go_wp2
  go_ret
  exact ⟨rfl, gr_refl _⟩

set_option maxHeartbeats 1000000 in
theorem paired1_any (V : FuncId) (f : Nat → Nat → Nat) (hT : Turns V f) (hen : ∀ args w, (callFunc V args).run Tryd.prog w = .ok (.enter V args) w) (W : World) (p1 p2 p3 ga gb n ba bb : Nat) (la lb : List Bool) (i : Nat) (hi : i < need n 64)
    (h1 : W.heap[p1]? = some (.cells #[.func (.func V) #[] #[]] 153 (0, 0))) (h2 : W.heap[p2]? = some (.cells #[.int .i64 n, .slice (some ⟨ga, 0, none⟩) (need n 64) (need n 64)] 41 (0, 0)))
    (h3 : W.heap[p3]? = some (.cells #[.int .i64 n, .slice (some ⟨gb, 0, none⟩) (need n 64) (need n 64)] 41 (0, 0))) (hva : Vc ba W n (some ⟨ga, 0, none⟩) la) (hvb : Vc bb W n (some ⟨gb, 0, none⟩) lb) (hn : n ≤ 4194304) :
    Calls Tryd.prog 110 #[.int .i64 i, .pointer (some ⟨p1, 0, none⟩), .pointer (some ⟨p2, 0, none⟩), .pointer (some ⟨p3, 0, none⟩)] W fun e w' => e = .returned (.int .u64 (f (chunk 64 la i) (chunk 64 lb i) : Nat)) ∧ ∃ q os, w' = Sort.grow (W.drewN q) os := by
  have mixed := mixed
  obtain ⟨_, e, _, hga, hca⟩ := hva.cell hi
  cases e
  obtain ⟨_, e, _, hgb, hcb⟩ := hvb.cell hi
  cases e
  have c1 := cell_grown (lt_heap h1) (a := ⟨p1, 0, none⟩) (v := .func (.func V) #[] #[]) (by rw [cell_of_row W p1 0 _ _ _ h1]; rfl)
  have c2 := cell_grown (lt_heap h2) (box2 h2).2.1
  have c3 := cell_grown (lt_heap h3) (box2 h3).2.1
  have c4 := cell_grown (lt_heap hga) hca
  have c5 := cell_grown (lt_heap hgb) hcb
  have hm : need n 64 ≤ 65536 := by rw [need64]; omega
  have HT := fun w => hide1 (hT (chunk 64 la i) (chunk 64 lb i) w (chunk64_lt _ _) (chunk64_lt _ _))
  clear h1 h2 h3 hva hvb hga hgb hca hcb hT
  go_enter Tryd.func110, Tryd.ntmps110
  go_wp2
  refine wp_region_quiet_grown (by assumption) (by kernel_rfl) ?_
  repeat (go_big_quiet_step (exact Calls.grown_of (HT _).out))
  refine wpQuiet_nil ?_
  intro w1 hw1
  obtain ⟨⟨nq, osq⟩, rfl⟩ := hw1
  go_wp2
  go_ret
  exact ⟨rfl, nq, osq, rfl⟩

end Go.Proofs.YtlkkninnfiaedaaDoor.T

namespace Go.Proofs.YtlkkninnfiaedaaDoor.T
open Go.RowKit
set_option maxRecDepth 100000
attribute [local go_sem] not_any mf_any field_words

theorem after4 {w w1 : World} {o1 o2 o3 o4 : Obj} (hb : Below ((((w.alloc o1).alloc o2).alloc o3).alloc o4).heap.size ((((w.alloc o1).alloc o2).alloc o3).alloc o4) w1) :
    w1.heap[w.heap.size]? = some o1 ∧ w1.heap[w.heap.size + 1]? = some o2 ∧ w1.heap[w.heap.size + 2]? = some o3 ∧ w1.heap[w.heap.size + 3]? = some o4 ∧ Below w.heap.size w w1 := by
  have h := after3 (w := w.alloc o1) hb
  have e : (w.alloc o1).heap.size = w.heap.size + 1 := by simp
  rw [e] at h
  obtain ⟨h1, h2, h3, h4⟩ := h
  exact ⟨(h4.block _ (by omega)).trans (heap_alloc_new _ _), h1, h2, h3, ((Below.refl _ _).alloc (Nat.le_refl _) _).trans (h4.mono (by omega))⟩

theorem paired_no (V : FuncId) (w : World) (n m : Nat) (a b : Option Addr) (hnm : n ≠ m) :
    Calls Tryd.prog 89 #[.agg #[.int .i64 n, .slice a (need n 64) (need n 64)], .agg #[.int .i64 m, .slice b (need m 64) (need m 64)], .func (.func V) #[] #[]] w fun e w' => e = .returned (.tuple #[.agg #[.int .i64 0, .slice none 0 0], .int .i64 11]) ∧ Below w.heap.size w w' := by
  have h : ((n : Int) == (m : Int)) = false := by simp; omega
  have h' : ((n : Int) != (m : Int)) = true := by simp; omega
  go_enter Tryd.func89, Tryd.ntmps89
  go_wp2
  have hB : Below ((((w.alloc (.cells #[.int .i64 n, .slice a (need n 64) (need n 64)] 41)).alloc (.cells #[.int .i64 m, .slice b (need m 64) (need m 64)] 41)).alloc (.cells #[.func (.func V) #[] #[]] 153)).alloc (.cells #[.int .i64 0, .slice none 0 0] 41)).heap.size _ _ := Below.refl _ ((((w.alloc (.cells #[.int .i64 n, .slice a (need n 64) (need n 64)] 41)).alloc (.cells #[.int .i64 m, .slice b (need m 64) (need m 64)] 41)).alloc (.cells #[.func (.func V) #[] #[]] 153)).alloc (.cells #[.int .i64 0, .slice none 0 0] 41))
  obtain ⟨_, _, _, h4, h5⟩ := after4 hB
  exact ret_vec2 Tryd.results89 (w.heap.size + 3) _ _ _ rfl rfl h4 rfl ⟨rfl, h5⟩

set_option maxHeartbeats 1000000 in
theorem paired_any (V : FuncId) (hV : V = 90) (f : Nat → Nat → Nat) (fb : Bool → Bool → Bool) (hT : Turns V f) (hf : ∀ x y, x < 18446744073709551616 → y < 18446744073709551616 → f x y < 18446744073709551616 ∧ ∀ j, (f x y).testBit j = fb (x.testBit j) (y.testBit j))
    (w : World) (n ba bb : Nat) (a b : Option Addr) (la lb : List Bool) (hva : Vc ba w n a la) (hvb : Vc bb w n b lb) (hn : n ≤ 4194304) :
    Calls Tryd.prog 89 #[.agg #[.int .i64 n, .slice a (need n 64) (need n 64)], .agg #[.int .i64 n, .slice b (need n 64) (need n 64)], .func (.func V) #[] #[]] w fun e w' => ∃ a', e = .returned (.tuple #[.agg #[.int .i64 n, .slice a' (need n 64) (need n 64)], .int .i64 0]) ∧ Vc w.heap.size w' n a' (List.zipWith fb la lb) ∧ Below w.heap.size w w' := by
  have hen : ∀ args w, (callFunc V args).run Tryd.prog w = .ok (.enter V args) w := by
    subst hV
    intro args w; kernel_rfl
  clear hV
  have HA := hide1 hva
  have HB := hide1 hvb
  have HM : ∀ W, W.heap[w.heap.size]? = some (.cells #[.int .i64 n, .slice a (need n 64) (need n 64)] 41 (0, 0)) → W.heap[w.heap.size + 1]? = some (.cells #[.int .i64 n, .slice b (need n 64) (need n 64)] 41 (0, 0)) → W.heap[w.heap.size + 2]? = some (.cells #[.func (.func V) #[] #[]] 153 (0, 0)) → Below w.heap.size w W →
      Hid (Calls Tryd.prog 107 #[.int .i64 n, .func (.func 110) #[] #[.pointer (some ⟨w.heap.size + 2, 0, none⟩), .pointer (some ⟨w.heap.size, 0, none⟩), .pointer (some ⟨w.heap.size + 1, 0, none⟩)]] W fun e w' => ∃ a', e = .returned (.agg #[.int .i64 n, .slice a' (need n 64) (need n 64)]) ∧ Vc W.heap.size w' n a' (List.zipWith fb la lb) ∧ Below W.heap.size W w') := by
    intro W h1 h2 h3 hB
    refine made_any 110 rfl #[.pointer (some ⟨w.heap.size + 2, 0, none⟩), .pointer (some ⟨w.heap.size, 0, none⟩), .pointer (some ⟨w.heap.size + 1, 0, none⟩)] W n (fun i => f (chunk 64 la i) (chunk 64 lb i)) (List.zipWith fb la lb) hn (by simp [HA.out.len, HB.out.len]) ?_ ?_
    · intro i hi
      obtain ⟨q1, q2⟩ := hf (chunk 64 la i) (chunk 64 lb i) (chunk64_lt _ _) (chunk64_lt _ _)
      refine ⟨q1, fun j hj hlt => ?_⟩
      rw [q2, chunk_testBit, chunk_testBit]
      rw [List.getD_eq_getElem?_getD, List.getD_eq_getElem?_getD, List.getD_eq_getElem?_getD, List.getElem?_zipWith, List.getElem?_eq_getElem (by rw [HA.out.len]; exact hlt), List.getElem?_eq_getElem (by rw [HB.out.len]; exact hlt)]
      simp [hj]
    · intro i W' hi hB'
      obtain ⟨ga, rfl, _⟩ := HA.out.cell hi
      obtain ⟨gb, rfl, _⟩ := HB.out.cell hi
      have hBB := hB.trans (hB'.mono hB.size)
      exact paired1_any V f hT hen W' (w.heap.size + 2) w.heap.size (w.heap.size + 1) ga gb n ba bb la lb i hi ((hB'.block _ (lt_heap h3)).trans h3) ((hB'.block _ (lt_heap h1)).trans h1) ((hB'.block _ (lt_heap h2)).trans h2) (HA.out.below hBB (Nat.le_refl _)) (HB.out.below hBB (Nat.le_refl _)) hn
  have HM' : Hid (∀ W, (∃ X, X = ((((w.alloc (.cells #[.int .i64 n, .slice a (need n 64) (need n 64)] 41)).alloc (.cells #[.int .i64 n, .slice b (need n 64) (need n 64)] 41)).alloc (.cells #[.func (.func V) #[] #[]] 153)).alloc (.cells #[.int .i64 0, .slice none 0 0] 41)) ∧ W = X) →
      Calls Tryd.prog 107 #[.int .i64 n, .func (.func 110) #[] #[.pointer (some ⟨w.heap.size + 2, 0, none⟩), .pointer (some ⟨w.heap.size, 0, none⟩), .pointer (some ⟨w.heap.size + 1, 0, none⟩)]] W fun e w' => ∃ a', e = .returned (.agg #[.int .i64 n, .slice a' (need n 64) (need n 64)]) ∧ Vc (w.heap.size + 4) w' n a' (List.zipWith fb la lb) ∧ w'.heap[w.heap.size + 3]? = some (.cells #[.int .i64 0, .slice none 0 0] 41 (0, 0)) ∧ Below w.heap.size w w') := by
    rintro W ⟨X, rfl, rfl⟩
    obtain ⟨h1, h2, h3, h4, h5⟩ := after4 (Below.refl _ ((((w.alloc (.cells #[.int .i64 n, .slice a (need n 64) (need n 64)] 41)).alloc (.cells #[.int .i64 n, .slice b (need n 64) (need n 64)] 41)).alloc (.cells #[.func (.func V) #[] #[]] 153)).alloc (.cells #[.int .i64 0, .slice none 0 0] 41)))
    refine (HM _ h1 h2 h3 h5).out.mono ?_
    rintro e w' ⟨a', rfl, hv, hb⟩
    obtain ⟨_, _, _, h4, h5⟩ := after4 hb
    exact ⟨a', rfl, hv.mono (by simp), h4, h5⟩
  clear HM hva hvb
  have h' : ((n : Int) != (n : Int)) = false := by simp
  go_enter Tryd.func89, Tryd.ntmps89
  go_wp2_with (first | (go_at_call 107; refine (HM'.out _ ⟨_, rfl, rfl⟩).mono ?_; rintro e w1 ⟨a', rfl, hv1, hs, hbw⟩; obtain ⟨q0, q1, q2, q3, q4⟩ := box2 hs; have HS := hide1 hs; have V1 := hide1 hv1; clear hs hv1))
  refine ret_vec2 Tryd.results89 (w.heap.size + 3) _ _ _ rfl rfl (set_box2 HS.out) rfl ⟨_, rfl, ?_, ?_⟩
  · exact ((V1.out.setCell (by dsimp only; omega) _).setCell (by dsimp only; omega) _).mono (by omega)
  · exact (hbw.setCell (by simp; try omega) _).setCell (by simp; try omega) _

theorem xor_bits : ∀ x y, x < 18446744073709551616 → y < 18446744073709551616 → x ^^^ y < 18446744073709551616 ∧ ∀ j, (x ^^^ y).testBit j = (x.testBit j ^^ y.testBit j) :=
  fun x y hx hy => ⟨Nat.xor_lt_two_pow (n := 64) hx hy, fun j => by rw [Nat.testBit_xor]⟩
theorem and_bits : ∀ x y, x < 18446744073709551616 → y < 18446744073709551616 → x &&& y < 18446744073709551616 ∧ ∀ j, (x &&& y).testBit j = (x.testBit j && y.testBit j) :=
  fun x y hx _ => ⟨Nat.lt_of_le_of_lt Nat.and_le_left hx, fun j => by rw [Nat.testBit_and]⟩

set_option maxHeartbeats 1000000 in
theorem xor_any (w : World) (n ba bb : Nat) (a b : Option Addr) (la lb : List Bool) (hva : Vc ba w n a la) (hvb : Vc bb w n b lb) (hn : n ≤ 4194304) :
    Calls Tryd.prog 64 #[.agg #[.int .i64 n, .slice a (need n 64) (need n 64)], .agg #[.int .i64 n, .slice b (need n 64) (need n 64)]] w fun e w' => ∃ a', e = .returned (.tuple #[.agg #[.int .i64 n, .slice a' (need n 64) (need n 64)], .int .i64 0]) ∧ Vc w.heap.size w' n a' (List.zipWith (fun x y => x ^^ y) la lb) ∧ Below w.heap.size w w' := by
  have hP := fun w h1 h2 => hide1 (paired_any 90 rfl _ (fun x y => x ^^ y) xor_turns xor_bits w n ba bb a b la lb h1 h2 hn)
  have HA := hide1 hva
  have HB := hide1 hvb
  clear hva hvb
  go_enter Tryd.func64, Tryd.ntmps64
  go_wp2_with (first | (go_at_call 89; refine (hP _ (((HA.out.alloc _).alloc _).alloc _) (((HB.out.alloc _).alloc _).alloc _)).out.mono ?_; rintro e w1 ⟨a', rfl, hv1, hb⟩; obtain ⟨_, _, hs, hbw⟩ := after3 hb; obtain ⟨q0, q1, q2, q3, q4⟩ := box2 hs; have HS := hide1 hs; have V1 := hide1 hv1; clear hs hv1))
  refine ret_vec2 Tryd.results64 (w.heap.size + 2) _ _ _ rfl rfl (set_box2 HS.out) rfl ⟨_, rfl, ?_, ?_⟩
  · exact ((V1.out.setCell (by simp; try omega) _).setCell (by simp; try omega) _).mono (by simp; omega)
  · exact (hbw.setCell (by simp; try omega) _).setCell (by simp; try omega) _

theorem chunks_inj {la lb : List Bool} (hl : la.length = lb.length) (h : chunks 64 la = chunks 64 lb) : la = lb := by
  apply bool_ext hl
  intro j hj
  have hk : j / 64 < need la.length 64 := by rw [need64]; omega
  have h1 := chunks_get hk
  rw [h, chunks_get (by rw [← hl]; exact hk)] at h1
  have h2 := congrArg (fun x => x.testBit (j % 64)) (Option.some.inj h1)
  simp only [chunk_testBit, Nat.div_add_mod] at h2
  have : j % 64 < 64 := Nat.mod_lt _ (by omega)
  simp [this] at h2
  exact h2.symm

/- words in memory, to be read -/
structure Nl (w : World) (m : Nat) (a : Option Addr) (ws : List Nat) : Prop where
  len : ws.length = m
  at' : ∀ (j : Nat) (x : Nat), ws[j]? = some x → ∃ g o, a = some ⟨g, o, none⟩ ∧ w.cell? ⟨g, o + j, none⟩ = some (.int .u64 (x : Int))

theorem Vc.nl {b : Nat} {w : World} {n : Nat} {a : Option Addr} {l : List Bool} (h : Vc b w n a l) : Nl w (need n 64) a (chunks 64 l) :=
  ⟨by rw [chunks_length, h.len], fun j x hj => by
    obtain ⟨h1, h2⟩ := chunks_get' hj
    rw [h.len] at h1
    obtain ⟨g, h3, _, _, h4⟩ := h.cell h1
    exact ⟨g, 0, h3, by rw [Nat.zero_add, h2]; exact h4⟩⟩

theorem Nl.below {B : Nat} {w w' : World} {m : Nat} {a : Option Addr} {ws : List Nat} (h : Nl w m a ws) (hB : Below B w w') (hs : w.heap.size ≤ B) : Nl w' m a ws :=
  ⟨h.len, fun j x hj => by
    obtain ⟨g, o, h1, h2⟩ := h.at' j x hj
    exact ⟨g, o, h1, (hB.cell (p := ⟨g, o + j, none⟩) (by have := lt_cell h2; simp; omega)).trans h2⟩⟩

theorem take_succ_eq {α : Type} {xs ys : List α} {k : Nat} {x : α} (h : xs.take k = ys.take k) (h1 : xs[k]? = some x) (h2 : ys[k]? = some x) : xs.take (k + 1) = ys.take (k + 1) := by
  rw [List.take_add_one, List.take_add_one, h, h1, h2]

theorem gr_drewN (w : World) (q : Nat) : ∃ q' os, w.drewN q = Sort.grow (w.drewN q') os := ⟨q, #[], by rw [Sort.grow_empty]⟩

end Go.Proofs.YtlkkninnfiaedaaDoor.T

namespace Go.Proofs.YtlkkninnfiaedaaDoor.T
open Go.RowKit
set_option maxRecDepth 100000
attribute [local go_sem] not_any mf_any

set_option maxHeartbeats 2000000 in
theorem nums_any (w : World) (m c c' : Nat) (a b : Option Addr) (xs : List Nat) (ha : Nl w m a xs) (hb : Nl w m b xs) (hm : m ≤ 65536) :
    Calls Tryd.prog 20 #[.slice a m c, .slice b m c'] w fun e w' => e = .returned (.bool true) ∧ ∃ q, w' = w.drewN q := by
  have HA := hide1 ha
  have HB := hide1 hb
  clear ha hb
  have h' : ((m : Int) != (m : Int)) = false := by simp
  go_enter Tryd.func20, Tryd.ntmps20
  go_wp2
  go_loopw [5] (fun i wr => ∃ k q : Nat, k ≤ m ∧ i = .int .i64 k ∧ wr = w.drewN q) (fun i _ => m - (intOf i).toNat)
  case atStart => exact ⟨0, 0, Nat.zero_le _, rfl, rfl⟩
  case round =>
    obtain ⟨k, q, hk, rfl, rfl⟩ := hrel
    by_cases hlt : k < m
    · obtain ⟨x, hx⟩ : ∃ x, xs[k]? = some x := ⟨_, List.getElem?_eq_getElem (by rw [HA.out.len]; exact hlt)⟩
      obtain ⟨ga, oa, rfl, hca⟩ := HA.out.at' k x hx
      obtain ⟨gb, ob, rfl, hcb⟩ := HB.out.at' k x hx
      have hca' : (w.drewN q).cell? ⟨ga, oa + k, none⟩ = some (.int .u64 (x : Int)) := hca
      have hcb' : (w.drewN q).cell? ⟨gb, ob + k, none⟩ = some (.int .u64 (x : Int)) := hcb
      clear hx
      have h2 : ((x : Int) != (x : Int)) = false := by simp
      go_wp2
      go_quiet (fail)
      go_wp2
      exact ⟨⟨k + 1, q + nq, by omega, by go_num, rfl⟩, by simp [intOf]; omega⟩
    · have : k = m := by omega
      subst this
      go_wp2
      go_ret
      exact ⟨rfl, q, rfl⟩

end Go.Proofs.YtlkkninnfiaedaaDoor.T
