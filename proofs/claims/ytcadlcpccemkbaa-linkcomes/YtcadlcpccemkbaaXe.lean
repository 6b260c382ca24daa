/- The head of a frame read. -/
import Derived.Test.YtcadlcpccemkbaaMXcXd
namespace Go.Proofs.Ytcadlcpccemkbaa.X
open Go.RowKit
set_option maxRecDepth 100000
attribute [local go_sem] not_any mf_any

/- where a reader is, with or without a fault, behind a number of n bytes -/
structure StP (n g k : Nat) (c : Int) (s : ByteArray) (t : IntKind) (w : World) (e : Ending) (w' : World) : Prop where
  ex : ∃ (x k' : Nat) (c' : Int) (f' : ByteArray), e = .returned (.int t (x : Int)) ∧ w'.heap[g]? = some (rdr s k' c' f') ∧ But g w w' ∧ x < 256 ^ n ∧ k' ≤ s.size ∧
    (c' = 0 ∨ c' = 12) ∧ (c = 0 ∧ k + n ≤ s.size → c' = 0 ∧ k' = k + n ∧ x = val (((nums s).drop k).take n)) ∧ (¬ (c = 0 ∧ k + n ≤ s.size) → c' = 12)

theorem stp_any {n g k : Nat} {s f field : ByteArray} {t : IntKind} {w : World} {e : Ending} {w' : World} (hk : k ≤ s.size)
    (h : MPost g k n s f field (numC n (restOf s k)) w (.int t (numX n (restOf s k) : Nat)) e w') : StP n g k 0 s t w e w' := by
  obtain ⟨h1, h2, h3⟩ := h
  have hl : (restOf s k).length = s.size - k := by rw [restOf, List.length_drop, nums_length]
  have hx := numX_lt (n := n) (restOf_lt s k)
  by_cases hn : k + n ≤ s.size
  · have e1 : numC n (restOf s k) = 0 := by rw [numC, if_pos (by omega)]
    rw [e1, rdN_ok] at h2
    exact ⟨_, k + n, 0, f, h1, h2, h3, hx, hn, Or.inl rfl, fun _ => ⟨rfl, rfl, by rw [numX, if_pos (by omega)]; rfl⟩, fun h => absurd ⟨rfl, hn⟩ h⟩
  · have e1 : numC n (restOf s k) = 12 := by rw [numC, if_neg (by omega)]
    rw [e1, rdN_no _ _ _ _ _ (by decide)] at h2
    exact ⟨_, k, 12, field, h1, h2, h3, hx, hk, Or.inr rfl, fun h => absurd h.2 hn, fun _ => rfl⟩
theorem stp_over {n g k : Nat} {c : Int} {s f : ByteArray} {t : IntKind} {w : World} {e : Ending} {w' : World} (hk : k ≤ s.size) (hc : c = 12)
    (h : OPost g k s f c w (.int t 0) e w') : StP n g k c s t w e w' := by
  obtain ⟨h1, h2, h3⟩ := h
  subst hc
  exact ⟨0, k, 12, f, h1, h2, h3, Nat.pow_pos (by omega), hk, Or.inr rfl, fun h => absurd h.1 (by decide), fun _ => rfl⟩
theorem rU8_step (g k : Nat) (c : Int) (s f field : ByteArray) (w : World) (h : w.heap[g]? = some (rdr s k c f)) (hk : k ≤ s.size) (hs : s.size ≤ 281474976710656) (hc : c = 0 ∨ c = 12) :
    Calls Try.prog 52 #[.pointer (some ⟨g, 0, none⟩), .string field] w (StP 1 g k c s .u8 w) := by
  rcases hc with rfl | hc
  · exact (rU8_any g k s f field w h hk hs).mono fun _ _ hp => stp_any hk hp
  · exact (rU8_over g k s f field c w h (by omega)).mono fun _ _ hp => stp_over hk hc hp
theorem rU32_step (g k : Nat) (c : Int) (s f field : ByteArray) (w : World) (h : w.heap[g]? = some (rdr s k c f)) (hk : k ≤ s.size) (hs : s.size ≤ 281474976710656) (hc : c = 0 ∨ c = 12) :
    Calls Try.prog 53 #[.pointer (some ⟨g, 0, none⟩), .string field] w (StP 4 g k c s .u32 w) := by
  rcases hc with rfl | hc
  · exact (rU32_any g k s f field w h hk hs).mono fun _ _ hp => stp_any hk hp
  · exact (rU32_over g k s f field c w h (by omega)).mono fun _ _ hp => stp_over hk hc hp

/- the numbers of a frame in bytes -/
def hdK (s : ByteArray) : Nat := val (((nums s).drop 0).take 1)
def hdN (s : ByteArray) (k : Nat) : Nat := val (((nums s).drop k).take 4)
structure HdP (g : Nat) (s : ByteArray) (w : World) (e : Ending) (w' : World) : Prop where
  ex : ∃ (x o p q a k : Nat) (c : Int) (f : ByteArray), e = .returned (fra x o p q a ⟨#[]⟩) ∧ w'.heap[g]? = some (rdr s k c f) ∧ But g w w' ∧
    (17 ≤ s.size → c = 0 ∧ k = 17 ∧ x = hdK s ∧ o = hdN s 1 ∧ p = hdN s 5 ∧ q = hdN s 9 ∧ a = hdN s 13) ∧ (s.size < 17 → c = 12)

set_option maxHeartbeats 2000000 in
theorem head_any (g : Nat) (s : ByteArray) (w : World) (h : w.heap[g]? = some (rdr s 0 0 ⟨#[]⟩)) (hs : s.size ≤ 281474976710656) :
    Calls Try.prog 41 #[.pointer (some ⟨g, 0, none⟩)] w (HdP g s w) := by
  have HS : Shy (s.size ≤ 281474976710656) := ⟨hs⟩
  have HG := hide1 h
  have HLT : Shy (g < w.heap.size) := ⟨lt_heap h⟩
  clear h hs
  go_enter Try.func41, Try.ntmps41
  go_upto_region 2 with (fail)
  generalize hX : World.alloc (World.alloc w _) _ = X
  have HX : Hid (But g w X) := by rw [← hX]; exact (But.alloc _ _ _).trans (But.alloc _ _ _)
  have h2 := hX ▸ heap_alloc2_old w _ _
  have h3 := hX ▸ heap_alloc2_new w _ _
  have R0 : Hid (X.heap[g]? = some (rdr s 0 0 ⟨#[]⟩)) := by
    rw [← hX]
    exact (Below.heap_alloc _ _ _ (by simp; have := HLT.out; omega)).trans ((Below.heap_alloc _ _ _ HLT.out).trans HG.out)
  obtain ⟨b3, hb3⟩ : ∃ b, w.heap.size + 1 = b := ⟨_, rfl⟩
  obtain ⟨b2, hb2⟩ : ∃ b, w.heap.size = b := ⟨_, rfl⟩
  have HBS : Shy (g < b2 ∧ b2 < b3 ∧ w.heap.size = b2) := ⟨by have := HLT.out; omega, by omega, hb2⟩
  rw [hb3] at h3 ⊢
  rw [hb2] at h2 ⊢
  have A0 := hide1 h2
  have B0 := hide1 h3
  clear hX hb2 hb3 h2 h3 HG
  have K0 : Shy (0 ≤ s.size) := ⟨Nat.zero_le _⟩
  have C0 : Shy ((0 : Int) = 0 ∨ (0 : Int) = 12) := ⟨Or.inl rfl⟩
  have k1 := hide1 (rU8_step g 0 0 s ⟨#[]⟩ ⟨#[107, 105, 110, 100]⟩ X R0.out K0.out HS.out C0.out)
  go_wp2_with fail
  refine k1.out.mono ?_
  intro e w1 hst
  obtain ⟨x, n1, c1, fF1, rfl, hr1, hbt1, hx1, hk1, hc1, hy1, hz1⟩ := hst.ex
  have P1 := hide1 hr1
  have A1 := hide1 ((hbt1.block b2 (lt_heap A0.out) (by have := HBS.out; omega)).trans A0.out)
  have hB := (hbt1.block b3 (lt_heap B0.out) (by have := HBS.out; omega)).trans B0.out
  have T1 := hide1 (HX.out.trans hbt1)
  have K1 : Shy (n1 ≤ s.size) := ⟨hk1⟩
  have C1 : Shy (c1 = 0 ∨ c1 = 12) := ⟨hc1⟩
  have Y1 : Shy ((0 : Int) = 0 ∧ 0 + 1 ≤ s.size → c1 = 0 ∧ n1 = 0 + 1 ∧ x = val (((nums s).drop 0).take 1)) := ⟨hy1⟩
  have Z1 : Shy (¬ ((0 : Int) = 0 ∧ 0 + 1 ≤ s.size) → c1 = 12) := ⟨hz1⟩
  obtain ⟨_, _, _, _, _, _, lb⟩ := box6 hB
  obtain ⟨f0, f1, f2, f3, f4, f5⟩ := free6 hB
  have HB := hide1 hB
  have e64 : IntKind.i64.wrap (x : Int) = (x : Int) := by rw [IntKind.wrap_i64]; omega
  clear k1 hst hr1 hbt1 hx1 hk1 hc1 hy1 hz1 hB
  go_upto_region 3 with (fail)
  generalize hW : World.setCell w1 _ _ = W1
  have R1 : Hid (W1.heap[g]? = some (rdr s n1 c1 fF1)) := by rw [← hW]; exact (heap_setCell_other _ _ g _ (by simp; have := HBS.out; omega)).trans P1.out
  have A1 : Hid (W1.heap[b2]? = some (.cells #[.int .i64 0, .int .u32 0, .int .u32 0, .int .u32 0, .int .u32 0, .string ⟨#[]⟩] 73 (0, 0))) := by rw [← hW]; exact (heap_setCell_other _ _ b2 _ (by simp; have := HBS.out; omega)).trans A1.out
  have B1 : Hid (W1.heap[b3]? = some (.cells #[.int .i64 (x : Int), .int .u32 0, .int .u32 0, .int .u32 0, .int .u32 0, .string ⟨#[]⟩] 73 (0, 0))) := by rw [← hW, heap_setCell_same _ b3 0 _ _ _ HB.out]; rfl
  have S1 : Hid (But g w W1) := by
    rw [← hW]
    have hT := T1.out
    exact ⟨hT.os, hT.tape, hT.output, by simpa using hT.size, fun k hk hb => (heap_setCell_other _ _ k _ (by simp; have := HBS.out; omega)).trans (hT.block k hk hb)⟩
  clear hW P1 HB f0 f1 f2 f3 f4 f5 lb T1 A0 B0
  have k2 := hide1 (rU32_step g n1 c1 s fF1 ⟨#[111, 119, 110]⟩ W1 R1.out K1.out HS.out C1.out)
  go_wp2_with fail
  refine k2.out.mono ?_
  intro e w2 hst
  obtain ⟨o, n2, c2, fF2, rfl, hr2, hbt2, hx2, hk2, hc2, hy2, hz2⟩ := hst.ex
  have P2 := hide1 hr2
  have A2 := hide1 ((hbt2.block b2 (lt_heap A1.out) (by have := HBS.out; omega)).trans A1.out)
  have hB := (hbt2.block b3 (lt_heap B1.out) (by have := HBS.out; omega)).trans B1.out
  have T2 := hide1 (S1.out.trans hbt2)
  have K2 : Shy (n2 ≤ s.size) := ⟨hk2⟩
  have C2 : Shy (c2 = 0 ∨ c2 = 12) := ⟨hc2⟩
  have Y2 : Shy ((c1 : Int) = 0 ∧ n1 + 4 ≤ s.size → c2 = 0 ∧ n2 = n1 + 4 ∧ o = val (((nums s).drop n1).take 4)) := ⟨hy2⟩
  have Z2 : Shy (¬ ((c1 : Int) = 0 ∧ n1 + 4 ≤ s.size) → c2 = 12) := ⟨hz2⟩
  obtain ⟨_, _, _, _, _, _, lb⟩ := box6 hB
  obtain ⟨f0, f1, f2, f3, f4, f5⟩ := free6 hB
  have HB := hide1 hB
  clear k2 hst hr2 hbt2 hx2 hk2 hc2 hy2 hz2 hB
  go_upto_region 4 with (fail)
  generalize hW : World.setCell w2 _ _ = W2
  have R2 : Hid (W2.heap[g]? = some (rdr s n2 c2 fF2)) := by rw [← hW]; exact (heap_setCell_other _ _ g _ (by simp; have := HBS.out; omega)).trans P2.out
  have A2 : Hid (W2.heap[b2]? = some (.cells #[.int .i64 0, .int .u32 0, .int .u32 0, .int .u32 0, .int .u32 0, .string ⟨#[]⟩] 73 (0, 0))) := by rw [← hW]; exact (heap_setCell_other _ _ b2 _ (by simp; have := HBS.out; omega)).trans A2.out
  have B2 : Hid (W2.heap[b3]? = some (.cells #[.int .i64 (x : Int), .int .u32 (o : Int), .int .u32 0, .int .u32 0, .int .u32 0, .string ⟨#[]⟩] 73 (0, 0))) := by rw [← hW, heap_setCell_same _ b3 1 _ _ _ HB.out]; rfl
  have S2 : Hid (But g w W2) := by
    rw [← hW]
    have hT := T2.out
    exact ⟨hT.os, hT.tape, hT.output, by simpa using hT.size, fun k hk hb => (heap_setCell_other _ _ k _ (by simp; have := HBS.out; omega)).trans (hT.block k hk hb)⟩
  clear hW P2 HB f0 f1 f2 f3 f4 f5 lb T2 A1 B1
  have k3 := hide1 (rU32_step g n2 c2 s fF2 ⟨#[112, 101, 101, 114]⟩ W2 R2.out K2.out HS.out C2.out)
  go_wp2_with fail
  refine k3.out.mono ?_
  intro e w3 hst
  obtain ⟨p, n3, c3, fF3, rfl, hr3, hbt3, hx3, hk3, hc3, hy3, hz3⟩ := hst.ex
  have P3 := hide1 hr3
  have A3 := hide1 ((hbt3.block b2 (lt_heap A2.out) (by have := HBS.out; omega)).trans A2.out)
  have hB := (hbt3.block b3 (lt_heap B2.out) (by have := HBS.out; omega)).trans B2.out
  have T3 := hide1 (S2.out.trans hbt3)
  have K3 : Shy (n3 ≤ s.size) := ⟨hk3⟩
  have C3 : Shy (c3 = 0 ∨ c3 = 12) := ⟨hc3⟩
  have Y3 : Shy ((c2 : Int) = 0 ∧ n2 + 4 ≤ s.size → c3 = 0 ∧ n3 = n2 + 4 ∧ p = val (((nums s).drop n2).take 4)) := ⟨hy3⟩
  have Z3 : Shy (¬ ((c2 : Int) = 0 ∧ n2 + 4 ≤ s.size) → c3 = 12) := ⟨hz3⟩
  obtain ⟨_, _, _, _, _, _, lb⟩ := box6 hB
  obtain ⟨f0, f1, f2, f3, f4, f5⟩ := free6 hB
  have HB := hide1 hB
  clear k3 hst hr3 hbt3 hx3 hk3 hc3 hy3 hz3 hB
  go_upto_region 5 with (fail)
  generalize hW : World.setCell w3 _ _ = W3
  have R3 : Hid (W3.heap[g]? = some (rdr s n3 c3 fF3)) := by rw [← hW]; exact (heap_setCell_other _ _ g _ (by simp; have := HBS.out; omega)).trans P3.out
  have A3 : Hid (W3.heap[b2]? = some (.cells #[.int .i64 0, .int .u32 0, .int .u32 0, .int .u32 0, .int .u32 0, .string ⟨#[]⟩] 73 (0, 0))) := by rw [← hW]; exact (heap_setCell_other _ _ b2 _ (by simp; have := HBS.out; omega)).trans A3.out
  have B3 : Hid (W3.heap[b3]? = some (.cells #[.int .i64 (x : Int), .int .u32 (o : Int), .int .u32 (p : Int), .int .u32 0, .int .u32 0, .string ⟨#[]⟩] 73 (0, 0))) := by rw [← hW, heap_setCell_same _ b3 2 _ _ _ HB.out]; rfl
  have S3 : Hid (But g w W3) := by
    rw [← hW]
    have hT := T3.out
    exact ⟨hT.os, hT.tape, hT.output, by simpa using hT.size, fun k hk hb => (heap_setCell_other _ _ k _ (by simp; have := HBS.out; omega)).trans (hT.block k hk hb)⟩
  clear hW P3 HB f0 f1 f2 f3 f4 f5 lb T3 A2 B2
  have k4 := hide1 (rU32_step g n3 c3 s fF3 ⟨#[115, 101, 113]⟩ W3 R3.out K3.out HS.out C3.out)
  go_wp2_with fail
  refine k4.out.mono ?_
  intro e w4 hst
  obtain ⟨q, n4, c4, fF4, rfl, hr4, hbt4, hx4, hk4, hc4, hy4, hz4⟩ := hst.ex
  have P4 := hide1 hr4
  have A4 := hide1 ((hbt4.block b2 (lt_heap A3.out) (by have := HBS.out; omega)).trans A3.out)
  have hB := (hbt4.block b3 (lt_heap B3.out) (by have := HBS.out; omega)).trans B3.out
  have T4 := hide1 (S3.out.trans hbt4)
  have K4 : Shy (n4 ≤ s.size) := ⟨hk4⟩
  have C4 : Shy (c4 = 0 ∨ c4 = 12) := ⟨hc4⟩
  have Y4 : Shy ((c3 : Int) = 0 ∧ n3 + 4 ≤ s.size → c4 = 0 ∧ n4 = n3 + 4 ∧ q = val (((nums s).drop n3).take 4)) := ⟨hy4⟩
  have Z4 : Shy (¬ ((c3 : Int) = 0 ∧ n3 + 4 ≤ s.size) → c4 = 12) := ⟨hz4⟩
  obtain ⟨_, _, _, _, _, _, lb⟩ := box6 hB
  obtain ⟨f0, f1, f2, f3, f4, f5⟩ := free6 hB
  have HB := hide1 hB
  clear k4 hst hr4 hbt4 hx4 hk4 hc4 hy4 hz4 hB
  go_upto_region 6 with (fail)
  generalize hW : World.setCell w4 _ _ = W4
  have R4 : Hid (W4.heap[g]? = some (rdr s n4 c4 fF4)) := by rw [← hW]; exact (heap_setCell_other _ _ g _ (by simp; have := HBS.out; omega)).trans P4.out
  have A4 : Hid (W4.heap[b2]? = some (.cells #[.int .i64 0, .int .u32 0, .int .u32 0, .int .u32 0, .int .u32 0, .string ⟨#[]⟩] 73 (0, 0))) := by rw [← hW]; exact (heap_setCell_other _ _ b2 _ (by simp; have := HBS.out; omega)).trans A4.out
  have B4 : Hid (W4.heap[b3]? = some (.cells #[.int .i64 (x : Int), .int .u32 (o : Int), .int .u32 (p : Int), .int .u32 (q : Int), .int .u32 0, .string ⟨#[]⟩] 73 (0, 0))) := by rw [← hW, heap_setCell_same _ b3 3 _ _ _ HB.out]; rfl
  have S4 : Hid (But g w W4) := by
    rw [← hW]
    have hT := T4.out
    exact ⟨hT.os, hT.tape, hT.output, by simpa using hT.size, fun k hk hb => (heap_setCell_other _ _ k _ (by simp; have := HBS.out; omega)).trans (hT.block k hk hb)⟩
  clear hW P4 HB f0 f1 f2 f3 f4 f5 lb T4 A3 B3
  have k5 := hide1 (rU32_step g n4 c4 s fF4 ⟨#[97, 99, 107]⟩ W4 R4.out K4.out HS.out C4.out)
  go_wp2_with fail
  refine k5.out.mono ?_
  intro e w5 hst
  obtain ⟨a, n5, c5, fF5, rfl, hr5, hbt5, hx5, hk5, hc5, hy5, hz5⟩ := hst.ex
  have P5 := hide1 hr5
  have A5 := hide1 ((hbt5.block b2 (lt_heap A4.out) (by have := HBS.out; omega)).trans A4.out)
  have hB := (hbt5.block b3 (lt_heap B4.out) (by have := HBS.out; omega)).trans B4.out
  have T5 := hide1 (S4.out.trans hbt5)
  have K5 : Shy (n5 ≤ s.size) := ⟨hk5⟩
  have C5 : Shy (c5 = 0 ∨ c5 = 12) := ⟨hc5⟩
  have Y5 : Shy ((c4 : Int) = 0 ∧ n4 + 4 ≤ s.size → c5 = 0 ∧ n5 = n4 + 4 ∧ a = val (((nums s).drop n4).take 4)) := ⟨hy5⟩
  have Z5 : Shy (¬ ((c4 : Int) = 0 ∧ n4 + 4 ≤ s.size) → c5 = 12) := ⟨hz5⟩
  obtain ⟨_, _, _, _, _, _, lb⟩ := box6 hB
  obtain ⟨f0, f1, f2, f3, f4, f5⟩ := free6 hB
  have HB := hide1 hB
  clear k5 hst hr5 hbt5 hx5 hk5 hc5 hy5 hz5 hB
  go_upto_region 7 with (fail)
  generalize hW : World.setCell w5 _ _ = W5
  have R5 : Hid (W5.heap[g]? = some (rdr s n5 c5 fF5)) := by rw [← hW]; exact (heap_setCell_other _ _ g _ (by simp; have := HBS.out; omega)).trans P5.out
  have A5 : Hid (W5.heap[b2]? = some (.cells #[.int .i64 0, .int .u32 0, .int .u32 0, .int .u32 0, .int .u32 0, .string ⟨#[]⟩] 73 (0, 0))) := by rw [← hW]; exact (heap_setCell_other _ _ b2 _ (by simp; have := HBS.out; omega)).trans A5.out
  have B5 : Hid (W5.heap[b3]? = some (.cells #[.int .i64 (x : Int), .int .u32 (o : Int), .int .u32 (p : Int), .int .u32 (q : Int), .int .u32 (a : Int), .string ⟨#[]⟩] 73 (0, 0))) := by rw [← hW, heap_setCell_same _ b3 4 _ _ _ HB.out]; rfl
  have S5 : Hid (But g w W5) := by
    rw [← hW]
    have hT := T5.out
    exact ⟨hT.os, hT.tape, hT.output, by simpa using hT.size, fun k hk hb => (heap_setCell_other _ _ k _ (by simp; have := HBS.out; omega)).trans (hT.block k hk hb)⟩
  clear hW P5 HB f0 f1 f2 f3 f4 f5 lb T5 A4 B4
  obtain ⟨d0, d1, d2, d3, d4, d5, lb⟩ := box6 B5.out
  go_wp2_with (refine wpList_store_row rfl 73 (.tmp 2) (.tmp 20) rfl b2 #[.int .i64 (x : Int), .int .u32 (o : Int), .int .u32 (p : Int), .int .u32 (q : Int), .int .u32 (a : Int), .string ⟨#[]⟩] rfl rfl 73 _ A5.out rfl (by kernel_rfl) (by kernel_rfl) ?_)
  refine ret_fr Try.results41 b2 _ _ _ _ _ _ rfl (setRow_heap W5 b2 _ _ _ _ A5.out) rfl ?_
  have y1 := Y1.out; have y2 := Y2.out; have y3 := Y3.out; have y4 := Y4.out; have y5 := Y5.out
  have z1 := Z1.out; have z2 := Z2.out; have z3 := Z3.out; have z4 := Z4.out; have z5 := Z5.out
  refine ⟨x, o, p, q, a, n5, c5, fF5, rfl, (setRow_other _ b2 g _ (by have := HBS.out; omega)).trans R5.out, ?_, fun h17 => ?_, fun h17 => ?_⟩
  · have hT := S5.out
    exact ⟨hT.os, hT.tape, hT.output, by simpa using hT.size, fun k hk hb => (setRow_other _ b2 k _ (by have := HBS.out; omega)).trans (hT.block k hk hb)⟩
  · obtain ⟨u1, m1, r1⟩ := y1 ⟨by trivial, by omega⟩
    obtain ⟨u2, m2, r2⟩ := y2 ⟨u1, by omega⟩
    obtain ⟨u3, m3, r3⟩ := y3 ⟨u2, by omega⟩
    obtain ⟨u4, m4, r4⟩ := y4 ⟨u3, by omega⟩
    obtain ⟨u5, m5, r5⟩ := y5 ⟨u4, by omega⟩
    rw [m1] at r2 m2
    rw [m2] at r3 m3
    rw [m3] at r4 m4
    rw [m4] at r5 m5
    exact ⟨u5, m5, r1, r2, r3, r4, r5⟩
  · refine z5 (fun ⟨u4, l5⟩ => ?_)
    have u3 : c3 = 0 ∧ n3 + 4 ≤ s.size := Classical.byContradiction fun h => by have := z4 h; omega
    have u2 : c2 = 0 ∧ n2 + 4 ≤ s.size := Classical.byContradiction fun h => by have := z3 h; omega
    have u1 : c1 = 0 ∧ n1 + 4 ≤ s.size := Classical.byContradiction fun h => by have := z2 h; omega
    have u0 : 0 + 1 ≤ s.size := Classical.byContradiction fun h => by have := z1 (fun hh => by omega); omega
    have m1 := (y1 ⟨by trivial, by omega⟩).2.1
    have m2 := (y2 u1).2.1
    have m3 := (y3 u2).2.1
    have m4 := (y4 u3).2.1
    omega
end Go.Proofs.Ytcadlcpccemkbaa.X
