/- Bits made word by word, and what is behind the last one cleared. Bits made word by word, by a function that tells each word. Not; Xor and And. -/
import Derived.Test.YtlkkninnfiaedaaDoorJ28
import Derived.Test.YtlkkninnfiaedaaDoorJ29
namespace Go.Proofs.YtlkkninnfiaedaaDoor.T
open Go.RowKit
set_option maxRecDepth 100000
attribute [local go_sem] not_any mf_any

theorem mask_and {x j : Nat} (hx : x < 18446744073709551616) (hj : j < 64) : bits .and .u64 (x : Int) (2 ^ j - 1) = ((x &&& (2 ^ j - 1) : Nat) : Int) := by
  have h1 := pow_lt hj
  have h2 := Nat.two_pow_pos j
  rw [show ((2 : Int) ^ j - 1) = ((2 ^ j - 1 : Nat) : Int) by rw [pow_cast]; omega, u64_and_nat _ _ hx (by omega)]

/- words in a block from b on: any, not yet cleared behind the last bit -/
structure Wr (b : Nat) (w : World) (n : Nat) (a : Option Addr) (ws : List Nat) : Prop where
  len : ws.length = need n 64
  lt : ∀ (k : Nat) (x : Nat), ws[k]? = some x → x < 18446744073709551616
  at' : (n = 0 ∧ a = none) ∨ ∃ g, a = some ⟨g, 0, none⟩ ∧ b ≤ g ∧ w.heap[g]? = some (wrow ws)

theorem Vc.wr {b : Nat} {w : World} {n : Nat} {a : Option Addr} {l : List Bool} (h : Vc b w n a l) : Wr b w n a (chunks 64 l) :=
  ⟨by rw [chunks_length, h.len], fun k x hx => by rw [(chunks_get' hx).2]; exact chunk64_lt _ _, h.at'⟩

theorem Wr.vc {b : Nat} {w : World} {n : Nat} {a : Option Addr} {l : List Bool} (h : Wr b w n a (chunks 64 l)) (hl : l.length = n) : Vc b w n a l := ⟨hl, h.at'⟩

theorem Wr.block {b : Nat} {w : World} {n j : Nat} {a : Option Addr} {ws : List Nat} (h : Wr b w n a ws) (hj : j < need n 64) : ∃ g, a = some ⟨g, 0, none⟩ ∧ b ≤ g ∧ w.heap[g]? = some (wrow ws) := by
  obtain ⟨_, _, h | h⟩ := h
  · obtain ⟨rfl, _⟩ := h
    simp [need64] at hj
  · exact h

theorem Wr.kept {b : Nat} {w w' : World} {n : Nat} {a : Option Addr} {ws : List Nat} (h : Wr b w n a ws) (hk : ∀ g, a = some ⟨g, 0, none⟩ → w'.heap[g]? = w.heap[g]?) : Wr b w' n a ws := by
  obtain ⟨h1, h2, h | ⟨g, h3, h4, h5⟩⟩ := h
  · exact ⟨h1, h2, .inl h⟩
  · exact ⟨h1, h2, .inr ⟨g, h3, h4, (hk g h3).trans h5⟩⟩

theorem Vc.kept {b : Nat} {w w' : World} {n : Nat} {a : Option Addr} {l : List Bool} (h : Vc b w n a l) (hk : ∀ g, a = some ⟨g, 0, none⟩ → w'.heap[g]? = w.heap[g]?) : Vc b w' n a l := by
  obtain ⟨h1, h | ⟨g, h3, h4, h5⟩⟩ := h
  · exact ⟨h1, .inl h⟩
  · exact ⟨h1, .inr ⟨g, h3, h4, (hk g h3).trans h5⟩⟩

theorem Wr.below {b B : Nat} {w w' : World} {n : Nat} {a : Option Addr} {ws : List Nat} (h : Wr b w n a ws) (hB : Below B w w') (hs : w.heap.size ≤ B) : Wr b w' n a ws := by
  obtain ⟨h1, h2, h | ⟨g, h3, h4, h5⟩⟩ := h
  · exact ⟨h1, h2, .inl h⟩
  · exact ⟨h1, h2, .inr ⟨g, h3, h4, (hB.block g (by have := lt_heap h5; omega)).trans h5⟩⟩

theorem Wr.alloc {b : Nat} {w : World} {n : Nat} {a : Option Addr} {ws : List Nat} (h : Wr b w n a ws) (o : Obj) : Wr b (w.alloc o) n a ws :=
  h.below (B := w.heap.size) ((Below.refl _ _).alloc (Nat.le_refl _) _) (Nat.le_refl _)

theorem Wr.blk {b : Nat} {w : World} {n : Nat} {a : Option Addr} {ws : List Nat} (h : Wr b w n a ws) : ∀ k, blk a = some k → b ≤ k ∧ k < w.heap.size := by
  intro k hk
  obtain ⟨_, _, h | ⟨g, h1, h2, h3⟩⟩ := h
  · rw [h.2] at hk; cases hk
  · rw [h1] at hk
    cases hk
    exact ⟨h2, lt_heap h3⟩

theorem Wr.set {b : Nat} {w : World} {n g k x : Nat} {ws : List Nat} (h : Wr b w n (some ⟨g, 0, none⟩) ws) (hx : x < 18446744073709551616) : Wr b (w.setCell ⟨g, k, none⟩ (.int .u64 (x : Int))) n (some ⟨g, 0, none⟩) (ws.set k x) := by
  obtain ⟨h1, h2, h | ⟨g', h3, h4, h5⟩⟩ := h
  · cases h.2
  · cases h3
    refine ⟨by simpa using h1, fun j y hy => ?_, .inr ⟨g, rfl, h4, wset h5⟩⟩
    rw [List.getElem?_set] at hy
    split at hy
    · split at hy
      · cases hy; exact hx
      · cases hy
    · exact h2 j y hy

set_option maxHeartbeats 1000000 in
theorem trim_any (b : Nat) (w : World) (n : Nat) (a : Option Addr) (ws : List Nat) (hn : n ≤ 4194304) (hw : Wr b w n a ws) :
    Calls Tryd.prog 117 #[.agg #[.int .i64 n, .slice a (need n 64) (need n 64)]] w fun e w' => e = .returned (.tuple #[]) ∧ Wr b w' n a (trimmed n ws) ∧ w.grownBy w' (blk a) := by
  by_cases h0 : 0 < n % 64
  · have hm : need n 64 - 1 < need n 64 := by rw [need64]; omega
    obtain ⟨g, rfl, hbg, hg⟩ := hw.block hm
    obtain ⟨hl, hb, _⟩ := hw
    obtain ⟨x, hx⟩ : ∃ x, ws[need n 64 - 1]? = some x := ⟨_, List.getElem?_eq_getElem (by omega)⟩
    have hc := row_cell hg hx
    have hfz := frozen_of_row w g (need n 64 - 1) _ _ hg
    have hgl := lt_heap hg
    have hxl := hb _ _ hx
    have h1 : (0 : Int) < (n : Int) % 64 := by omega
    have HT : Hid (trimmed n ws = ws.set (need n 64 - 1) (x &&& (2 ^ (n % 64) - 1))) := by
      unfold Hid trimmed
      rw [if_pos h0, hl, List.getD_eq_getElem?_getD, hx]
      rfl
    have HG := hide1 hg
    have hk0 : (0 : Int) ≤ (need n 64 : Int) - 1 := by omega
    have hk1 : (need n 64 : Int) - 1 < (need n 64 : Int) := by omega
    have hk2 : ((need n 64 : Int) - 1).toNat = need n 64 - 1 := by omega
    have hmm : need n 64 ≤ 65536 := by rw [need64]; omega
    have hkw : IntKind.i64.wrap ((need n 64 : Int) - 1) = (need n 64 : Int) - 1 := by rw [IntKind.wrap_i64]; omega
    have hpw : IntKind.u64.wrap (2 ^ (n % 64)) = 2 ^ (n % 64) := by rw [wrap_pow (Nat.mod_lt _ (by omega))]; simp
    have hpw2 : IntKind.u64.wrap (2 ^ (n % 64) - 1) = 2 ^ (n % 64) - 1 := by
      have h1 := pow_lt (Nat.mod_lt n (show 64 > 0 by omega))
      have h2 := Nat.two_pow_pos (n % 64)
      rw [pow_cast, IntKind.wrap_u64]
      omega
    have hl' := hl
    have hb' := hide1 hb
    clear hg hx hl hb
    go_enter Tryd.func117, Tryd.ntmps117
    go_wp2
    go_region
    rw [mask_and hxl (Nat.mod_lt _ (by omega))]
    go_end0
    refine ⟨rfl, ?_, ?_⟩
    · rw [HT.out]
      refine Wr.kept (w := w.setCell ⟨g, need n 64 - 1, none⟩ (.int .u64 ((x &&& (2 ^ (n % 64) - 1) : Nat) : Int))) (Wr.set ⟨hl', hb'.out, .inr ⟨g, rfl, hbg, HG.out⟩⟩ (Nat.lt_of_le_of_lt Nat.and_le_left hxl)) ?_
      intro g' hg'
      cases hg'
      exact Below.heap_alloc _ _ _ (by simp; exact hgl)
    · refine ⟨rfl, rfl, rfl, by simp, fun k hk hne => ?_⟩
      exact (Below.heap_alloc _ _ _ (by simp; exact hk)).trans (Below.heap_setCell _ _ _ _ (fun e => hne (by simp [YtlkkninnfiaedaaDoor.T.blk, e])))
  · have h1 : ¬ (0 : Int) < (n : Int) % 64 := by omega
    go_enter Tryd.func117, Tryd.ntmps117
    go_wp2
    go_end0
    refine ⟨rfl, ?_, World.grownBy_alloc _ _ _⟩
    rw [trimmed, if_neg h0]
    exact hw.alloc _

end Go.Proofs.YtlkkninnfiaedaaDoor.T

namespace Go.Proofs.YtlkkninnfiaedaaDoor.T
open Go.RowKit
set_option maxRecDepth 100000
attribute [local go_sem] not_any mf_any

/- the first k words told, the others 0 -/
def tells (F : Nat → Nat) (m k : Nat) : List Nat := (List.range m).map (fun i => if i < k then F i else 0)

theorem tells_length (F : Nat → Nat) (m k : Nat) : (tells F m k).length = m := by simp [tells]
theorem tells_get {F : Nat → Nat} {m k j x : Nat} (h : (tells F m k)[j]? = some x) : j < m ∧ x = if j < k then F j else 0 := by
  unfold tells at h
  rw [List.getElem?_map] at h
  by_cases hj : j < m
  · rw [List.getElem?_range hj] at h
    exact ⟨hj, (Option.some.inj h).symm⟩
  · rw [List.getElem?_eq_none (by simp; omega)] at h
    cases h
theorem tells_zero (F : Nat → Nat) (m : Nat) : tells F m 0 = List.replicate m 0 := by
  apply List.ext_getElem
  · simp [tells]
  · intro j h1 h2
    simp [tells]
theorem tells_succ (F : Nat → Nat) {m k : Nat} (_h : k < m) : tells F m (k + 1) = (tells F m k).set k (F k) := by
  apply List.ext_getElem
  · simp [tells]
  · intro j h1 h2
    rw [List.getElem_set]
    simp only [tells, List.getElem_map, List.getElem_range]
    by_cases hj : k = j
    · subst hj
      simp
    · have : (j < k + 1) ↔ j < k := by omega
      simp [hj, this]

set_option maxHeartbeats 4000000 in
theorem made_any (V : FuncId) (hV : V = 110) (cap : Array Value) (w : World) (n : Nat) (F : Nat → Nat) (l : List Bool) (hn : n ≤ 4194304) (hl : l.length = n)
    (hF : ∀ i, i < need n 64 → F i < 18446744073709551616 ∧ ∀ j, j < 64 → 64 * i + j < n → (F i).testBit j = l.getD (64 * i + j) false)
    (hcall : ∀ i W', i < need n 64 → Below w.heap.size w W' → Calls Tryd.prog V (#[.int .i64 (i : Nat)] ++ cap) W' fun e w'' => e = .returned (.int .u64 (F i : Nat)) ∧ ∃ q os, w'' = Sort.grow (W'.drewN q) os) :
    Calls Tryd.prog 107 #[.int .i64 n, .func (.func V) #[] cap] w fun e w' => ∃ a, e = .returned (.agg #[.int .i64 n, .slice a (need n 64) (need n 64)]) ∧ Vc w.heap.size w' n a l ∧ Below w.heap.size w w' := by
  have hB := fun w => hide1 (blank_any n w hn)
  have hm : need n 64 ≤ 65536 := by rw [need64]; omega
  have HF := hide1 hF
  have HC := hide1 hcall
  have HL := hide1 hl
  have hT := fun b w a ws h => hide1 (trim_any b w n a ws hn h)
  have hen : ∀ args w, (callFunc V args).run Tryd.prog w = .ok (.enter V args) w := by
    subst hV
    all_goals (intro args w; kernel_rfl)
  clear hF hcall hl
  go_enter Tryd.func107, Tryd.ntmps107
  go_wp2_with (first | (go_at_call 58; refine (hB _).out.mono ?_; rintro e w1 ⟨a, rfl, hv1, hb⟩))
  have hbx := after_alloc hb
  have l0 := lt_heap hbx
  have HG : Hid (∀ g, a = some ⟨g, 0, none⟩ → w.heap.size < g ∧ g < w1.heap.size) := by
    intro g hg
    have := hv1.blk g (by rw [hg]; rfl)
    simp at this
    exact ⟨by omega, this.2⟩
  go_loopw [12] (fun i wr => ∃ k : Nat, k ≤ need n 64 ∧ i = .int .i64 k ∧ Wr (w.heap.size + 1) wr n a (tells F (need n 64) k) ∧ wr.heap[w.heap.size]? = some (.cells #[.int .i64 0, .slice none 0 0] 41 (0, 0)) ∧
      wr.heap[w1.heap.size]? = some (.cells #[.int .i64 n, .slice a (need n 64) (need n 64)] 41 (0, 0)) ∧ Below w.heap.size w wr) (fun i _ => need n 64 - (intOf i).toNat)
  case atStart =>
    refine ⟨0, Nat.zero_le _, rfl, ?_, (Below.heap_alloc _ _ _ l0).trans hbx, heap_alloc_new _ _, (below_after hb).alloc (by omega) _⟩
    rw [tells_zero, ← chunks_falses]
    have := (hv1.alloc (.cells #[.int .i64 n, .slice a (need n 64) (need n 64)] 41)).wr
    simpa using this
  case round =>
    obtain ⟨k, hk, rfl, hW, hs, ht, hB'⟩ := hrel
    by_cases hlt : k < need n 64
    · obtain ⟨g, rfl, hbg, hg⟩ := hW.block hlt
      have hgg := HG.out g rfl
      obtain ⟨y, HY⟩ : ∃ y, (tells F (need n 64) k)[k]? = some y := ⟨_, List.getElem?_eq_getElem (show k < (tells F (need n 64) k).length by rw [tells_length]; exact hlt)⟩
      have HCd : Hid (Calls Tryd.prog V (#[.int .i64 (k : Nat)] ++ cap) wr.drew fun e w2 => e = .returned (.int .u64 (F k : Nat)) ∧ w2.heap[w1.heap.size]? = some (.cells #[.int .i64 n, .slice (some ⟨g, 0, none⟩) (need n 64) (need n 64)] 41 (0, 0)) ∧
          w2.heap[w.heap.size]? = some (.cells #[.int .i64 0, .slice none 0 0] 41 (0, 0)) ∧ w2.heap[g]? = some (wrow (tells F (need n 64) k)) ∧ Below w.heap.size w w2 ∧
          w2.cell? ⟨w1.heap.size, 1, none⟩ = some (.slice (some ⟨g, 0, none⟩) (need n 64) (need n 64)) ∧ w2.cell? ⟨g, k, none⟩ = some (.int .u64 (y : Nat)) ∧ w2.frozen? ⟨g, k, none⟩ = false) := by
        refine (HC.out k wr.drew hlt hB'.drew).mono ?_
        rintro e w2 ⟨rfl, hq⟩
        have hb2 : Below wr.heap.size wr w2 := (Below.refl wr.heap.size wr).drew.trans (gr_below hq)
        have t2 := (hb2.block _ (lt_heap ht)).trans ht
        have g2 := (hb2.block _ (lt_heap hg)).trans hg
        exact ⟨rfl, t2, (hb2.block _ (lt_heap hs)).trans hs, g2, hB'.trans (hb2.mono hB'.size), (box2 t2).2.1, row_cell g2 HY, frozen_of_row w2 g k _ _ g2⟩
      have HS := hide1 hs
      have HT := hide1 ht
      have HW := hide1 hW
      have HGk := hide1 hg
      have HFk := hide1 (HF.out k hlt)
      obtain ⟨d0, d1, _, _, ltt⟩ := box2 ht
      clear hs ht hW hg HY
      go_wp2
      subst hV
      all_goals
        go_region_with (first | (go_at_call 110; refine HCd.out.mono ?_; rintro e w2 ⟨rfl, t2, s2, g2, b2, c1, c2, c3⟩; have T2 := hide1 t2; have S2 := hide1 s2; have G2 := hide1 g2; clear t2 s2 g2))
        all_goals
          go_wp2
          go_roundw
          case rel =>
            refine ⟨k + 1, by omega, by go_num, ?_, ?_, ?_, ?_⟩
            · rw [tells_succ F hlt]
              exact Wr.set ⟨by rw [tells_length], HW.out.lt, .inr ⟨g, rfl, hbg, G2.out⟩⟩ HFk.out.1
            · exact (Below.heap_setCell _ _ _ _ (by simp; omega)).trans S2.out
            · exact (Below.heap_setCell _ _ _ _ (by simp; omega)).trans T2.out
            · exact b2.setCell (by simp; omega) _
          case measure => simp [intOf]; omega
    · have : k = need n 64 := by omega
      subst this
      have HS := hide1 hs
      have HT := hide1 ht
      have HW := hide1 hW
      obtain ⟨d0, d1, _, _, ltt⟩ := box2 ht
      clear hs ht hW
      have HTr := hide1 (show Calls Tryd.prog 117 #[.agg #[.int .i64 n, .slice a (need n 64) (need n 64)]] wr fun e w2 => e = .returned (.tuple #[]) ∧ Vc (w.heap.size + 1) w2 n a l ∧ w2.heap[w1.heap.size]? = some (.cells #[.int .i64 n, .slice a (need n 64) (need n 64)] 41 (0, 0)) ∧
          w2.heap[w.heap.size]? = some (.cells #[.int .i64 0, .slice none 0 0] 41 (0, 0)) ∧ Below w.heap.size w w2 by
        refine (hT _ _ _ _ HW.out).out.mono ?_
        rintro e w2 ⟨rfl, hr2, hgr⟩
        have hk : ∀ k, blk a = some k → w.heap.size + 1 ≤ k ∧ k < w1.heap.size := fun k hk => by
          have h1 := (HW.out.blk k hk).1
          cases a with
          | none => cases hk
          | some p =>
            obtain ⟨_, _, h | ⟨g, h3, h4, h5⟩⟩ := HW.out
            · cases h.2
            · cases h3
              cases hk
              exact ⟨h1, (HG.out g rfl).2⟩
        refine ⟨rfl, ?_, (hgr.block _ (lt_heap HT.out) (fun e => by have := hk _ e.symm; omega)).trans HT.out, (hgr.block _ (lt_heap HS.out) (fun e => by have := hk _ e.symm; omega)).trans HS.out, hB'.grown hgr hB'.size (fun k e => by have := hk _ e; omega)⟩
        refine Wr.vc ?_ HL.out
        rw [← trimmed_spec (n := n) (ws := tells F (need n 64) (need n 64)) HL.out (tells_length _ _ _)]
        · exact hr2
        · intro k x hx
          obtain ⟨h1, h2⟩ := tells_get hx
          rw [if_pos h1] at h2
          rw [h2]
          exact HF.out k h1)
      go_wp2_with (first | (go_at_call 117; refine HTr.out.mono ?_; rintro e w2 ⟨rfl, hv2, t2, s2, b2⟩; have V2 := hide1 hv2; obtain ⟨q0, q1, q2, q3, q4⟩ := box2 t2; have S2 := hide1 s2; obtain ⟨r0, r1, r2, r3, r4⟩ := box2 s2; clear hv2 t2 s2))
      refine ret_vec Tryd.results107 w.heap.size _ _ rfl (set_box2 S2.out) rfl ⟨_, rfl, ?_, ?_⟩
      · exact ((V2.out.setCell (by simp) _).setCell (by simp) _).mono (by omega)
      · exact (b2.setCell (Nat.le_refl _) _).setCell (Nat.le_refl _) _

end Go.Proofs.YtlkkninnfiaedaaDoor.T

namespace Go.Proofs.YtlkkninnfiaedaaDoor.T
open Go.RowKit
set_option maxRecDepth 100000
attribute [local go_sem] not_any mf_any

theorem not_testBit {x j : Nat} (hx : x < 18446744073709551616) (hj : j < 64) : (18446744073709551615 - x).testBit j = !x.testBit j := by
  have := Nat.testBit_two_pow_sub_succ (x := x) (n := 64) hx j
  rw [show 2 ^ 64 - (x + 1) = 18446744073709551615 - x by omega] at this
  rw [this]
  simp [hj]

theorem xor_max {x : Nat} (hx : x < 18446744073709551616) : bits .xor .u64 IntKind.u64.max (x : Int) = ((18446744073709551615 - x : Nat) : Int) := by
  have e : IntKind.u64.max = ((18446744073709551615 : Nat) : Int) := by decide
  rw [e, u64_xor_nat _ _ (by omega) hx]
  congr 1
  apply Nat.eq_of_testBit_eq
  intro j
  rw [Nat.testBit_xor]
  have h1 : (18446744073709551615 : Nat).testBit j = decide (j < 64) := Nat.testBit_two_pow_sub_one 64 j
  rw [h1]
  by_cases hj : j < 64
  · rw [not_testBit hx hj]
    simp [hj]
  · have h2 : x.testBit j = false := Nat.testBit_lt_two_pow (Nat.lt_of_lt_of_le hx (show 2 ^ 64 ≤ 2 ^ j from Nat.pow_le_pow_right (by omega) (by omega)))
    have h3 : (18446744073709551615 - x).testBit j = false := Nat.testBit_lt_two_pow (Nat.lt_of_lt_of_le (show 18446744073709551615 - x < 2 ^ 64 by omega) (Nat.pow_le_pow_right (by omega) (by omega)))
    simp [hj, h2, h3]

/- what turns two words to one -/
def Turns (V : FuncId) (f : Nat → Nat → Nat) : Prop := ∀ (x y : Nat) (w : World), x < 18446744073709551616 → y < 18446744073709551616 → Calls Tryd.prog V #[.int .u64 (x : Int), .int .u64 (y : Int)] w fun e w' => e = .returned (.int .u64 (f x y : Nat)) ∧ ∃ q os, w' = Sort.grow (w.drewN q) os

theorem xor_turns : Turns 90 (fun x y => x ^^^ y) := by
  intro x y w hx hy
  have h := u64_xor_nat x y hx hy
  go_enter Tryd.func90, Tryd.ntmps90
  go_wp2
  go_ret
  exact ⟨rfl, gr_refl _⟩

set_option maxHeartbeats 1000000 in
theorem paired1_any (V : FuncId) (f : Nat → Nat → Nat) (hT : Turns V f) (hen : ∀ args w, (callFunc V args).run Tryd.prog w = .ok (.enter V args) w) (W : World) (p1 p2 p3 ga gb n ba bb : Nat) (la lb : List Bool) (i : Nat) (hi : i < need n 64)
    (h1 : W.heap[p1]? = some (.cells #[.func (.func V) #[] #[]] 153 (0, 0))) (h2 : W.heap[p2]? = some (.cells #[.int .i64 n, .slice (some ⟨ga, 0, none⟩) (need n 64) (need n 64)] 41 (0, 0)))
    (h3 : W.heap[p3]? = some (.cells #[.int .i64 n, .slice (some ⟨gb, 0, none⟩) (need n 64) (need n 64)] 41 (0, 0))) (hva : Vc ba W n (some ⟨ga, 0, none⟩) la) (hvb : Vc bb W n (some ⟨gb, 0, none⟩) lb) (hn : n ≤ 4194304) :
    Calls Tryd.prog 110 #[.int .i64 i, .pointer (some ⟨p1, 0, none⟩), .pointer (some ⟨p2, 0, none⟩), .pointer (some ⟨p3, 0, none⟩)] W fun e w' => e = .returned (.int .u64 (f (chunk 64 la i) (chunk 64 lb i) : Nat)) ∧ ∃ q os, w' = Sort.grow (W.drewN q) os := by
  have mixed := mixed
  obtain ⟨_, e, _, hga, hca⟩ := hva.cell hi
  cases e
  obtain ⟨_, e, _, hgb, hcb⟩ := hvb.cell hi
  cases e
  have c1 := cell_grown (lt_heap h1) (a := ⟨p1, 0, none⟩) (v := .func (.func V) #[] #[]) (by rw [cell_of_row W p1 0 _ _ _ h1]; rfl)
  have c2 := cell_grown (lt_heap h2) (box2 h2).2.1
  have c3 := cell_grown (lt_heap h3) (box2 h3).2.1
  have c4 := cell_grown (lt_heap hga) hca
  have c5 := cell_grown (lt_heap hgb) hcb
  have hm : need n 64 ≤ 65536 := by rw [need64]; omega
  have HT := fun w => hide1 (hT (chunk 64 la i) (chunk 64 lb i) w (chunk64_lt _ _) (chunk64_lt _ _))
  clear h1 h2 h3 hva hvb hga hgb hca hcb hT
  go_enter Tryd.func110, Tryd.ntmps110
  go_wp2
  refine wp_region_quiet_grown (by assumption) (by kernel_rfl) ?_
  repeat (go_big_quiet_step (exact Calls.grown_of (HT _).out))
  refine wpQuiet_nil ?_
  intro w1 hw1
  obtain ⟨⟨nq, osq⟩, rfl⟩ := hw1
  go_wp2
  go_ret
  exact ⟨rfl, nq, osq, rfl⟩

end Go.Proofs.YtlkkninnfiaedaaDoor.T
