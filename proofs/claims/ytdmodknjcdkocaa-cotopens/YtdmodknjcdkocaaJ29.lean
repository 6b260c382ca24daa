/- Bits made word by word, by a function that tells each word. Not; Xor and And. Xor, And, Equal. Lists held against each other. -/
import Derived.Test.YtdmodknjcdkocaaJ28
namespace Go.Proofs.Ytdmodknjcdkocaa.T
open Go.RowKit
set_option maxRecDepth 100000
attribute [local go_sem] not_any mf_any

/- the first k words told, the others 0 -/
def tells (F : Nat → Nat) (m k : Nat) : List Nat := (List.range m).map (fun i => if i < k then F i else 0)

theorem tells_length (F : Nat → Nat) (m k : Nat) : (tells F m k).length = m := by simp [tells]
theorem tells_get {F : Nat → Nat} {m k j x : Nat} (h : (tells F m k)[j]? = some x) : j < m ∧ x = if j < k then F j else 0 := by
  unfold tells at h
  rw [List.getElem?_map] at h
  by_cases hj : j < m
  · rw [List.getElem?_range hj] at h
    exact ⟨hj, (Option.some.inj h).symm⟩
  · rw [List.getElem?_eq_none (by simp; omega)] at h
    cases h
theorem tells_zero (F : Nat → Nat) (m : Nat) : tells F m 0 = List.replicate m 0 := by
  apply List.ext_getElem
  · simp [tells]
  · intro j h1 h2
    simp [tells]
theorem tells_succ (F : Nat → Nat) {m k : Nat} (_h : k < m) : tells F m (k + 1) = (tells F m k).set k (F k) := by
  apply List.ext_getElem
  · simp [tells]
  · intro j h1 h2
    rw [List.getElem_set]
    simp only [tells, List.getElem_map, List.getElem_range]
    by_cases hj : k = j
    · subst hj
      simp
    · have : (j < k + 1) ↔ j < k := by omega
      simp [hj, this]

set_option maxHeartbeats 4000000 in
theorem made_any (V : FuncId) (hV : V = 37) (cap : Array Value) (w : World) (n : Nat) (F : Nat → Nat) (l : List Bool) (hn : n ≤ 4194304) (hl : l.length = n)
    (hF : ∀ i, i < need n 64 → F i < 18446744073709551616 ∧ ∀ j, j < 64 → 64 * i + j < n → (F i).testBit j = l.getD (64 * i + j) false)
    (hcall : ∀ i W', i < need n 64 → Below w.heap.size w W' → Calls Try.prog V (#[.int .i64 (i : Nat)] ++ cap) W' fun e w'' => e = .returned (.int .u64 (F i : Nat)) ∧ ∃ q os, w'' = Sort.grow (W'.drewN q) os) :
    Calls Try.prog 36 #[.int .i64 n, .func (.func V) #[] cap] w fun e w' => ∃ a, e = .returned (.agg #[.int .i64 n, .slice a (need n 64) (need n 64)]) ∧ Vc w.heap.size w' n a l ∧ Below w.heap.size w w' := by
  have hB := fun w => hide1 (blank_any n w hn)
  have hm : need n 64 ≤ 65536 := by rw [need64]; omega
  have HF := hide1 hF
  have HC := hide1 hcall
  have HL := hide1 hl
  have hT := fun b w a ws h => hide1 (trim_any b w n a ws hn h)
  have hen : ∀ args w, (callFunc V args).run Try.prog w = .ok (.enter V args) w := by
    subst hV
    all_goals (intro args w; kernel_rfl)
  clear hF hcall hl
  go_enter Try.func36, Try.ntmps36
  go_wp2_with (first | (go_at_call 45; refine (hB _).out.mono ?_; rintro e w1 ⟨a, rfl, hv1, hb⟩))
  have hbx := after_alloc hb
  have l0 := lt_heap hbx
  have HG : Hid (∀ g, a = some ⟨g, 0, none⟩ → w.heap.size < g ∧ g < w1.heap.size) := by
    intro g hg
    have := hv1.blk g (by rw [hg]; rfl)
    simp at this
    exact ⟨by omega, this.2⟩
  go_loopw [12] (fun i wr => ∃ k : Nat, k ≤ need n 64 ∧ i = .int .i64 k ∧ Wr (w.heap.size + 1) wr n a (tells F (need n 64) k) ∧ wr.heap[w.heap.size]? = some (.cells #[.int .i64 0, .slice none 0 0] 37 (0, 0)) ∧
      wr.heap[w1.heap.size]? = some (.cells #[.int .i64 n, .slice a (need n 64) (need n 64)] 37 (0, 0)) ∧ Below w.heap.size w wr) (fun i _ => need n 64 - (intOf i).toNat)
  case atStart =>
    refine ⟨0, Nat.zero_le _, rfl, ?_, (Below.heap_alloc _ _ _ l0).trans hbx, heap_alloc_new _ _, (below_after hb).alloc (by omega) _⟩
    rw [tells_zero, ← chunks_falses]
    have := (hv1.alloc (.cells #[.int .i64 n, .slice a (need n 64) (need n 64)] 37)).wr
    simpa using this
  case round =>
    obtain ⟨k, hk, rfl, hW, hs, ht, hB'⟩ := hrel
    by_cases hlt : k < need n 64
    · obtain ⟨g, rfl, hbg, hg⟩ := hW.block hlt
      have hgg := HG.out g rfl
      obtain ⟨y, HY⟩ : ∃ y, (tells F (need n 64) k)[k]? = some y := ⟨_, List.getElem?_eq_getElem (show k < (tells F (need n 64) k).length by rw [tells_length]; exact hlt)⟩
      have HCd : Hid (Calls Try.prog V (#[.int .i64 (k : Nat)] ++ cap) wr.drew fun e w2 => e = .returned (.int .u64 (F k : Nat)) ∧ w2.heap[w1.heap.size]? = some (.cells #[.int .i64 n, .slice (some ⟨g, 0, none⟩) (need n 64) (need n 64)] 37 (0, 0)) ∧
          w2.heap[w.heap.size]? = some (.cells #[.int .i64 0, .slice none 0 0] 37 (0, 0)) ∧ w2.heap[g]? = some (wrow (tells F (need n 64) k)) ∧ Below w.heap.size w w2 ∧
          w2.cell? ⟨w1.heap.size, 1, none⟩ = some (.slice (some ⟨g, 0, none⟩) (need n 64) (need n 64)) ∧ w2.cell? ⟨g, k, none⟩ = some (.int .u64 (y : Nat)) ∧ w2.frozen? ⟨g, k, none⟩ = false) := by
        refine (HC.out k wr.drew hlt hB'.drew).mono ?_
        rintro e w2 ⟨rfl, hq⟩
        have hb2 : Below wr.heap.size wr w2 := (Below.refl wr.heap.size wr).drew.trans (gr_below hq)
        have t2 := (hb2.block _ (lt_heap ht)).trans ht
        have g2 := (hb2.block _ (lt_heap hg)).trans hg
        exact ⟨rfl, t2, (hb2.block _ (lt_heap hs)).trans hs, g2, hB'.trans (hb2.mono hB'.size), (box2 t2).2.1, row_cell g2 HY, frozen_of_row w2 g k _ _ g2⟩
      have HS := hide1 hs
      have HT := hide1 ht
      have HW := hide1 hW
      have HGk := hide1 hg
      have HFk := hide1 (HF.out k hlt)
      obtain ⟨d0, d1, _, _, ltt⟩ := box2 ht
      clear hs ht hW hg HY
      go_wp2
      subst hV
      all_goals
        go_region_with (first | ((first | go_at_call 37); refine HCd.out.mono ?_; rintro e w2 ⟨rfl, t2, s2, g2, b2, c1, c2, c3⟩; have T2 := hide1 t2; have S2 := hide1 s2; have G2 := hide1 g2; clear t2 s2 g2))
        all_goals
          go_wp2
          go_roundw
          case rel =>
            refine ⟨k + 1, by omega, by go_num, ?_, ?_, ?_, ?_⟩
            · rw [tells_succ F hlt]
              exact Wr.set ⟨by rw [tells_length], HW.out.lt, .inr ⟨g, rfl, hbg, G2.out⟩⟩ HFk.out.1
            · exact (Below.heap_setCell _ _ _ _ (by simp; omega)).trans S2.out
            · exact (Below.heap_setCell _ _ _ _ (by simp; omega)).trans T2.out
            · exact b2.setCell (by simp; omega) _
          case measure => simp [intOf]; omega
    · have : k = need n 64 := by omega
      subst this
      have HS := hide1 hs
      have HT := hide1 ht
      have HW := hide1 hW
      obtain ⟨d0, d1, _, _, ltt⟩ := box2 ht
      clear hs ht hW
      have HTr := hide1 (show Calls Try.prog 48 #[.agg #[.int .i64 n, .slice a (need n 64) (need n 64)]] wr fun e w2 => e = .returned (.tuple #[]) ∧ Vc (w.heap.size + 1) w2 n a l ∧ w2.heap[w1.heap.size]? = some (.cells #[.int .i64 n, .slice a (need n 64) (need n 64)] 37 (0, 0)) ∧
          w2.heap[w.heap.size]? = some (.cells #[.int .i64 0, .slice none 0 0] 37 (0, 0)) ∧ Below w.heap.size w w2 by
        refine (hT _ _ _ _ HW.out).out.mono ?_
        rintro e w2 ⟨rfl, hr2, hgr⟩
        have hk : ∀ k, blk a = some k → w.heap.size + 1 ≤ k ∧ k < w1.heap.size := fun k hk => by
          have h1 := (HW.out.blk k hk).1
          cases a with
          | none => cases hk
          | some p =>
            obtain ⟨_, _, h | ⟨g, h3, h4, h5⟩⟩ := HW.out
            · cases h.2
            · cases h3
              cases hk
              exact ⟨h1, (HG.out g rfl).2⟩
        refine ⟨rfl, ?_, (hgr.block _ (lt_heap HT.out) (fun e => by have := hk _ e.symm; omega)).trans HT.out, (hgr.block _ (lt_heap HS.out) (fun e => by have := hk _ e.symm; omega)).trans HS.out, hB'.grown hgr hB'.size (fun k e => by have := hk _ e; omega)⟩
        refine Wr.vc ?_ HL.out
        rw [← trimmed_spec (n := n) (ws := tells F (need n 64) (need n 64)) HL.out (tells_length _ _ _)]
        · exact hr2
        · intro k x hx
          obtain ⟨h1, h2⟩ := tells_get hx
          rw [if_pos h1] at h2
          rw [h2]
          exact HF.out k h1)
      go_wp2_with (first | (go_at_call 48; refine HTr.out.mono ?_; rintro e w2 ⟨rfl, hv2, t2, s2, b2⟩; have V2 := hide1 hv2; obtain ⟨q0, q1, q2, q3, q4⟩ := box2 t2; have S2 := hide1 s2; obtain ⟨r0, r1, r2, r3, r4⟩ := box2 s2; clear hv2 t2 s2))
      refine ret_vec Try.results36 w.heap.size _ _ rfl (set_box2 S2.out) rfl ⟨_, rfl, ?_, ?_⟩
      · exact ((V2.out.setCell (by simp) _).setCell (by simp) _).mono (by omega)
      · exact (b2.setCell (Nat.le_refl _) _).setCell (Nat.le_refl _) _

end Go.Proofs.Ytdmodknjcdkocaa.T

namespace Go.Proofs.Ytdmodknjcdkocaa.T
open Go.RowKit
set_option maxRecDepth 100000
attribute [local go_sem] not_any mf_any

theorem not_testBit {x j : Nat} (hx : x < 18446744073709551616) (hj : j < 64) : (18446744073709551615 - x).testBit j = !x.testBit j := by
  have := Nat.testBit_two_pow_sub_succ (x := x) (n := 64) hx j
  rw [show 2 ^ 64 - (x + 1) = 18446744073709551615 - x by omega] at this
  rw [this]
  simp [hj]

theorem xor_max {x : Nat} (hx : x < 18446744073709551616) : bits .xor .u64 IntKind.u64.max (x : Int) = ((18446744073709551615 - x : Nat) : Int) := by
  have e : IntKind.u64.max = ((18446744073709551615 : Nat) : Int) := by decide
  rw [e, u64_xor_nat _ _ (by omega) hx]
  congr 1
  apply Nat.eq_of_testBit_eq
  intro j
  rw [Nat.testBit_xor]
  have h1 : (18446744073709551615 : Nat).testBit j = decide (j < 64) := Nat.testBit_two_pow_sub_one 64 j
  rw [h1]
  by_cases hj : j < 64
  · rw [not_testBit hx hj]
    simp [hj]
  · have h2 : x.testBit j = false := Nat.testBit_lt_two_pow (Nat.lt_of_lt_of_le hx (show 2 ^ 64 ≤ 2 ^ j from Nat.pow_le_pow_right (by omega) (by omega)))
    have h3 : (18446744073709551615 - x).testBit j = false := Nat.testBit_lt_two_pow (Nat.lt_of_lt_of_le (show 18446744073709551615 - x < 2 ^ 64 by omega) (Nat.pow_le_pow_right (by omega) (by omega)))
    simp [hj, h2, h3]

theorem not1_any (W : World) (p g n b : Nat) (l : List Bool) (i : Nat) (hi : i < need n 64) (hp : W.heap[p]? = some (.cells #[.int .i64 n, .slice (some ⟨g, 0, none⟩) (need n 64) (need n 64)] 37 (0, 0))) (hv : Vc b W n (some ⟨g, 0, none⟩) l) (hn : n ≤ 4194304) :
    Calls Try.prog 37 #[.int .i64 i, .pointer (some ⟨p, 0, none⟩)] W fun e w' => e = .returned (.int .u64 (18446744073709551615 - chunk 64 l i : Nat)) ∧ ∃ q os, w' = Sort.grow (W.drewN q) os := by
  obtain ⟨g', hg', _, hg, hc⟩ := hv.cell hi
  cases hg'
  obtain ⟨c0, c1, _, _, _⟩ := box2 hp
  have hm : need n 64 ≤ 65536 := by rw [need64]; omega
  have hx := chunk64_lt l i
  clear hp hv hg
  go_enter Try.func37, Try.ntmps37
  go_wp2
  go_ret
  refine ⟨?_, gr_refl _⟩
  show Ending.returned (.int .u64 (bits .xor .u64 IntKind.u64.max (chunk 64 l i : Nat))) = _
  rw [xor_max hx]

set_option maxHeartbeats 1000000 in
theorem vnot_any (b : Nat) (w : World) (n : Nat) (a : Option Addr) (l : List Bool) (hv : Vc b w n a l) (hn : n ≤ 4194304) :
    Calls Try.prog 19 #[.agg #[.int .i64 n, .slice a (need n 64) (need n 64)]] w fun e w' => ∃ a', e = .returned (.agg #[.int .i64 n, .slice a' (need n 64) (need n 64)]) ∧ Vc w.heap.size w' n a' (l.map (!·)) ∧ Below w.heap.size w w' := by
  have HV := hide1 hv
  have HM : ∀ W, W.heap[w.heap.size]? = some (.cells #[.int .i64 n, .slice a (need n 64) (need n 64)] 37 (0, 0)) → Below w.heap.size w W →
      Hid (Calls Try.prog 36 #[.int .i64 n, .func (.func 37) #[] #[.pointer (some ⟨w.heap.size, 0, none⟩)]] W fun e w' => ∃ a', e = .returned (.agg #[.int .i64 n, .slice a' (need n 64) (need n 64)]) ∧ Vc W.heap.size w' n a' (l.map (!·)) ∧ Below W.heap.size W w') := by
    intro W hW hB
    refine made_any 37 rfl #[.pointer (some ⟨w.heap.size, 0, none⟩)] W n (fun i => 18446744073709551615 - chunk 64 l i) (l.map (!·)) hn (by simp [HV.out.len]) ?_ ?_
    · intro i hi
      refine ⟨by omega, fun j hj hlt => ?_⟩
      rw [not_testBit (chunk64_lt _ _) hj, chunk_testBit]
      rw [List.getD_eq_getElem?_getD, List.getD_eq_getElem?_getD, List.getElem?_map, List.getElem?_eq_getElem (by rw [HV.out.len]; exact hlt)]
      simp [hj]
    · intro i W' hi hB'
      obtain ⟨g, rfl, _⟩ := HV.out.cell hi
      exact not1_any W' w.heap.size g n b l i hi ((hB'.block _ (lt_heap hW)).trans hW) (HV.out.below (hB.trans (hB'.mono hB.size)) (Nat.le_refl _)) hn
  clear hv
  go_enter Try.func19, Try.ntmps19
  go_wp2_with (first | (go_at_call 36; refine (HM _ (heap_alloc2_old _ _ _) (((Below.refl _ _).alloc (Nat.le_refl _) _).alloc (by simp) _)).out.mono ?_; rintro e w1 ⟨a', rfl, hv1, hb⟩; obtain ⟨_, hs, hbw⟩ := after2 hb; obtain ⟨q0, q1, q2, q3, q4⟩ := box2 hs; have HS := hide1 hs; have V1 := hide1 hv1; clear hs hv1))
  refine ret_vec Try.results19 (w.heap.size + 1) _ _ rfl (set_box2 HS.out) rfl ⟨_, rfl, ?_, ?_⟩
  · exact ((V1.out.setCell (by simp) _).setCell (by simp) _).mono (by simp; omega)
  · exact (hbw.setCell (by simp) _).setCell (by simp) _

/- what turns two words to one -/
def Turns (V : FuncId) (f : Nat → Nat → Nat) : Prop := ∀ (x y : Nat) (w : World), x < 18446744073709551616 → y < 18446744073709551616 → Calls Try.prog V #[.int .u64 (x : Int), .int .u64 (y : Int)] w fun e w' => e = .returned (.int .u64 (f x y : Nat)) ∧ ∃ q os, w' = Sort.grow (w.drewN q) os

end Go.Proofs.Ytdmodknjcdkocaa.T

namespace Go.Proofs.Ytdmodknjcdkocaa.T
open Go.RowKit
set_option maxRecDepth 100000
attribute [local go_sem] not_any mf_any field_words

theorem after4 {w w1 : World} {o1 o2 o3 o4 : Obj} (hb : Below ((((w.alloc o1).alloc o2).alloc o3).alloc o4).heap.size ((((w.alloc o1).alloc o2).alloc o3).alloc o4) w1) :
    w1.heap[w.heap.size]? = some o1 ∧ w1.heap[w.heap.size + 1]? = some o2 ∧ w1.heap[w.heap.size + 2]? = some o3 ∧ w1.heap[w.heap.size + 3]? = some o4 ∧ Below w.heap.size w w1 := by
  have h := after3 (w := w.alloc o1) hb
  have e : (w.alloc o1).heap.size = w.heap.size + 1 := by simp
  rw [e] at h
  obtain ⟨h1, h2, h3, h4⟩ := h
  exact ⟨(h4.block _ (by omega)).trans (heap_alloc_new _ _), h1, h2, h3, ((Below.refl _ _).alloc (Nat.le_refl _) _).trans (h4.mono (by omega))⟩

theorem xor_bits : ∀ x y, x < 18446744073709551616 → y < 18446744073709551616 → x ^^^ y < 18446744073709551616 ∧ ∀ j, (x ^^^ y).testBit j = (x.testBit j ^^ y.testBit j) :=
  fun x y hx hy => ⟨Nat.xor_lt_two_pow (n := 64) hx hy, fun j => by rw [Nat.testBit_xor]⟩
theorem and_bits : ∀ x y, x < 18446744073709551616 → y < 18446744073709551616 → x &&& y < 18446744073709551616 ∧ ∀ j, (x &&& y).testBit j = (x.testBit j && y.testBit j) :=
  fun x y hx _ => ⟨Nat.lt_of_le_of_lt Nat.and_le_left hx, fun j => by rw [Nat.testBit_and]⟩

theorem chunks_inj {la lb : List Bool} (hl : la.length = lb.length) (h : chunks 64 la = chunks 64 lb) : la = lb := by
  apply bool_ext hl
  intro j hj
  have hk : j / 64 < need la.length 64 := by rw [need64]; omega
  have h1 := chunks_get hk
  rw [h, chunks_get (by rw [← hl]; exact hk)] at h1
  have h2 := congrArg (fun x => x.testBit (j % 64)) (Option.some.inj h1)
  simp only [chunk_testBit, Nat.div_add_mod] at h2
  have : j % 64 < 64 := Nat.mod_lt _ (by omega)
  simp [this] at h2
  exact h2.symm

/- words in memory, to be read -/
structure Nl (w : World) (m : Nat) (a : Option Addr) (ws : List Nat) : Prop where
  len : ws.length = m
  at' : ∀ (j : Nat) (x : Nat), ws[j]? = some x → ∃ g o, a = some ⟨g, o, none⟩ ∧ w.cell? ⟨g, o + j, none⟩ = some (.int .u64 (x : Int))

theorem Vc.nl {b : Nat} {w : World} {n : Nat} {a : Option Addr} {l : List Bool} (h : Vc b w n a l) : Nl w (need n 64) a (chunks 64 l) :=
  ⟨by rw [chunks_length, h.len], fun j x hj => by
    obtain ⟨h1, h2⟩ := chunks_get' hj
    rw [h.len] at h1
    obtain ⟨g, h3, _, _, h4⟩ := h.cell h1
    exact ⟨g, 0, h3, by rw [Nat.zero_add, h2]; exact h4⟩⟩

theorem Nl.below {B : Nat} {w w' : World} {m : Nat} {a : Option Addr} {ws : List Nat} (h : Nl w m a ws) (hB : Below B w w') (hs : w.heap.size ≤ B) : Nl w' m a ws :=
  ⟨h.len, fun j x hj => by
    obtain ⟨g, o, h1, h2⟩ := h.at' j x hj
    exact ⟨g, o, h1, (hB.cell (p := ⟨g, o + j, none⟩) (by have := lt_cell h2; simp; omega)).trans h2⟩⟩

theorem take_succ_eq {α : Type} {xs ys : List α} {k : Nat} {x : α} (h : xs.take k = ys.take k) (h1 : xs[k]? = some x) (h2 : ys[k]? = some x) : xs.take (k + 1) = ys.take (k + 1) := by
  rw [List.take_add_one, List.take_add_one, h, h1, h2]

theorem gr_drewN (w : World) (q : Nat) : ∃ q' os, w.drewN q = Sort.grow (w.drewN q') os := ⟨q, #[], by rw [Sort.grow_empty]⟩

end Go.Proofs.Ytdmodknjcdkocaa.T

namespace Go.Proofs.Ytdmodknjcdkocaa.T
open Go.RowKit
set_option maxRecDepth 100000
attribute [local go_sem] not_any mf_any

set_option maxHeartbeats 2000000 in
theorem nums_any (w : World) (m c c' : Nat) (a b : Option Addr) (xs : List Nat) (ha : Nl w m a xs) (hb : Nl w m b xs) (hm : m ≤ 65536) :
    Calls Try.prog 11 #[.slice a m c, .slice b m c'] w fun e w' => e = .returned (.bool true) ∧ ∃ q, w' = w.drewN q := by
  have HA := hide1 ha
  have HB := hide1 hb
  clear ha hb
  have h' : ((m : Int) != (m : Int)) = false := by simp
  go_enter Try.func11, Try.ntmps11
  go_wp2
  go_loopw [5] (fun i wr => ∃ k q : Nat, k ≤ m ∧ i = .int .i64 k ∧ wr = w.drewN q) (fun i _ => m - (intOf i).toNat)
  case atStart => exact ⟨0, 0, Nat.zero_le _, rfl, rfl⟩
  case round =>
    obtain ⟨k, q, hk, rfl, rfl⟩ := hrel
    by_cases hlt : k < m
    · obtain ⟨x, hx⟩ : ∃ x, xs[k]? = some x := ⟨_, List.getElem?_eq_getElem (by rw [HA.out.len]; exact hlt)⟩
      obtain ⟨ga, oa, rfl, hca⟩ := HA.out.at' k x hx
      obtain ⟨gb, ob, rfl, hcb⟩ := HB.out.at' k x hx
      have hca' : (w.drewN q).cell? ⟨ga, oa + k, none⟩ = some (.int .u64 (x : Int)) := hca
      have hcb' : (w.drewN q).cell? ⟨gb, ob + k, none⟩ = some (.int .u64 (x : Int)) := hcb
      clear hx
      have h2 : ((x : Int) != (x : Int)) = false := by simp
      go_wp2
      go_quiet (fail)
      go_wp2
      exact ⟨⟨k + 1, q + nq, by omega, by go_num, rfl⟩, by simp [intOf]; omega⟩
    · have : k = m := by omega
      subst this
      go_wp2
      go_ret
      exact ⟨rfl, q, rfl⟩

end Go.Proofs.Ytdmodknjcdkocaa.T
