/- Rows made of columns. -/
import Derived.Test.YtdahnbojnleboaaJ38
namespace Go.Proofs.Ytdahnbojnleboaa.T
open Go.RowKit
set_option maxRecDepth 100000
attribute [local go_sem] not_any

def rowV (L : Nat → List Bool) (j p : Nat) : Nat := turned (fun i => chunk 64 (L (p * 64 + i)) (j / 64)) (j % 64)
theorem rowV_lt (L : Nat → List Bool) (j p : Nat) : rowV L j p < 18446744073709551616 := turned_lt (fun i _ => chunk64_lt _ _) (Nat.mod_lt _ (by omega))
theorem rowV_bit (L : Nat → List Bool) (j p b : Nat) (hb : b < 64) : (rowV L j p).testBit b = (L (p * 64 + b)).getD j false := by
  rw [rowV, turned_bit (Nat.mod_lt _ (by omega)) hb, chunk_testBit, decide_eq_true (Nat.mod_lt _ (by omega)), Bool.true_and, show 64 * (j / 64) + j % 64 = j by omega]
def rst (L : Nat → List Bool) (p b j p' : Nat) : Nat := if p' < p ∨ (p' = p ∧ j < b * 64) then rowV L j p' else 0
theorem rst_next (L : Nat → List Bool) (p b j p' : Nat) : rowsTo (rst L p b) p b (turned (fun i => chunk 64 (L (p * 64 + i)) b)) 64 j p' = rst L p (b + 1) j p' := by
  unfold rowsTo rst
  by_cases h : p' = p ∧ b * 64 ≤ j ∧ j < b * 64 + 64
  · rw [if_pos h, if_pos (by omega), rowV, h.1, show j / 64 = b by omega, show j % 64 = j - b * 64 by omega]
  · rw [if_neg h]
    by_cases h2 : p' < p ∨ (p' = p ∧ j < b * 64)
    · rw [if_pos h2, if_pos (by omega)]
    · rw [if_neg h2, if_neg (by omega)]
theorem rst_over (L : Nat → List Bool) {p nb j p' N : Nat} (hj : j < N) (hN : N ≤ nb * 64) : rst L p nb j p' = rst L (p + 1) 0 j p' := by
  unfold rst
  by_cases h2 : p' < p + 1
  · rw [if_pos (by omega), if_pos (.inl h2)]
  · rw [if_neg (by omega), if_neg (by omega)]
theorem Hrow.kpr {w w' : World} {g m k n gr : Nat} {aa : Nat → Option Addr} {L : Nat → List Bool} (h : Hrow w g m k n aa L) (hk : Kpr w w' gr) (hg : gr < g) : Hrow w' g m k n aa L := by
  obtain ⟨vs, h1, h2, h3⟩ := h.row
  refine ⟨⟨vs, h1, (hk.oth g (lt_heap h2) (by omega)).trans h2, h3⟩, fun i hi => (h.vc i hi).kept (fun q hq => ?_)⟩
  rcases (h.vc i hi).at' with ⟨_, e⟩ | ⟨q', e, hq1, hq2⟩
  · rw [e] at hq; cases hq
  · rw [e] at hq
    cases hq
    exact hk.oth _ (lt_heap hq2) (by omega)

theorem rows_no (w : World) (m c : Nat) (a : Option Addr) (n : Nat → Nat) (aa : Nat → Option Addr) (L : Nat → List Bool) (hv : Vcs w m a n aa L) (hm : m ≤ 4096) (he : evn m n = false) :
    Calls Try.prog 28 #[.slice a m c] w fun e w' => e = .returned (.tuple #[.slice none 0 0, .int .i64 11]) ∧ Below w.heap.size w w' := by
  have k := hide1 (even_any w m c a n aa L hv hm)
  rw [he] at k
  go_enter Try.func28, Try.ntmps28
  go_wp2_with fail
  go_at_call 45
  refine k.out.mono ?_
  rintro e w1 ⟨rfl, hb⟩
  have HB := hide1 hb
  clear hb k
  go_wp2
  go_ret2
  exact ⟨rfl, HB.out⟩

set_option maxHeartbeats 4000000 in
theorem rows_yes (w : World) (N c : Nat) (a : Option Addr) (n : Nat → Nat) (aa : Nat → Option Addr) (L : Nat → List Bool) (hv : Vcs w 128 a n aa L) (hc : 128 ≤ c) (hn : ∀ i, i < 128 → n i = N) (hN : N ≤ 65536) :
    Calls Try.prog 28 #[.slice a 128 c] w fun e w' => ∃ g, e = .returned (.tuple #[.slice (some ⟨g, 0, none⟩) N N, .int .i64 0]) ∧ w'.heap[g]? = some (rrow (rowV L) N) ∧ Below w.heap.size w w' := by
  have k := hide1 (even_any w 128 c a n aa L hv (by omega))
  rw [show evn 128 n = true from decide_eq_true ⟨rfl, fun i hi => (hn i hi).trans (hn 0 (by omega)).symm⟩] at k
  obtain ⟨g, o, rfl, hgl, hcs⟩ := hv.first (by omega)
  have hc0 := hcs 0 (by omega)
  rw [hn 0 (by omega), Nat.zero_mul, Nat.add_zero] at hc0
  obtain ⟨a0, ha0⟩ : ∃ a0, a0 = aa 0 := ⟨_, rfl⟩
  rw [← ha0] at hc0
  obtain ⟨nb, hnb⟩ : ∃ nb, nb = need N 64 := ⟨_, rfl⟩
  have hnb1 : nb = (N + 63) / 64 := by rw [hnb, need64]
  have kN : ∀ w, Hid (Calls Try.prog 47 #[.int .i64 N, .int .i64 64] w fun e w' => e = .returned (.int .i64 (nb : Nat)) ∧ w' = w) := fun w => by rw [hnb]; exact tneeded_any N 64 w (by omega) (.inr rfl)
  have HNE : Shy (nb = need N 64) := ⟨hnb⟩
  have HNB : Shy (nb = (N + 63) / 64) := ⟨hnb1⟩
  have HV := hide1 hv
  have HN := hide1 hn
  have kL := fun w => hide1 (len_any (N : Int) (.slice a0 (need N 64) (need N 64)) w rfl)
  clear hv hn hcs ha0 hnb1 hnb
  go_enter Try.func28, Try.ntmps28
  go_wp2_with fail
  go_at_call 45
  refine k.out.mono ?_
  rintro e w1 ⟨rfl, hb1⟩
  have d0 := (hb1.cell (p := ⟨g, o, none⟩) hgl).trans hc0.1
  have d1 := (hb1.cell (p := ⟨g, o + 1, none⟩) hgl).trans hc0.2
  clear k hc0
  go_wp2_with fail
  go_at_call 24
  refine (kL _).out.mono ?_
  rintro e w2 ⟨rfl, hw2⟩
  have hb2 : Below w.heap.size w w2 := by rw [hw2]; exact hb1.alloc hb1.size _
  have hmk := make_rows N hN w2
  clear d0 d1 kL hw2
  obtain ⟨gr, hgr⟩ : ∃ gr, gr = w2.heap.size := ⟨_, rfl⟩
  rw [← hgr] at hmk
  obtain ⟨W0, hW0⟩ : ∃ W0, W0 = w2.alloc (rrow (fun _ _ => 0) N) := ⟨_, rfl⟩
  have A0 : Hid (W0.heap[gr]? = some (rrow (rst L 0 0) N)) := by
    rw [hW0, hgr, heap_alloc_new]
    unfold rrow
    rw [show rcs (fun _ _ => 0) N = rcs (rst L 0 0) N from rcs_congr (fun j p _ _ => (if_neg (by omega) : rst L 0 0 j p = 0).symm)]
    rfl
  have A1 : Hid (Below w.heap.size w W0) := by rw [hW0]; exact hb2.alloc hb2.size _
  have hle : w.heap.size ≤ gr := by rw [hgr]; exact hb2.size
  rw [← hW0] at hmk
  clear hW0 hgr hb2 hb1
  go_upto_region 4 with (fail)
  clear hmk
  go_wp2
  go_loopw [17] (fun i wr => ∃ p : Nat, p ≤ 2 ∧ i = .int .i64 p ∧ wr.heap[gr]? = some (rrow (rst L p 0) N) ∧ Below w.heap.size w wr) (fun i _ => 2 - (intOf i).toNat)
  case atStart => exact ⟨0, Nat.zero_le _, rfl, A0.out, A1.out⟩
  case round =>
    obtain ⟨p, hp, rfl, hrow, hbe⟩ := hrel
    clear A0 A1
    have HR := hide1 hrow
    have HB := hide1 hbe
    by_cases hlt : p < 2
    · have hlt' : (p : Int) < 2 := by omega
      obtain ⟨off, hoff⟩ : ∃ off, off = p * 64 := ⟨_, rfl⟩
      obtain ⟨of2, hof2⟩ : ∃ of2, of2 = off + 64 := ⟨_, rfl⟩
      have q1 : IntKind.i64.wrap ((p : Int) * 64) = (off : Int) := by rw [IntKind.wrap_i64]; omega
      have q1' : (p : Int) * 64 = (off : Int) := by omega
      have q2 : ((p : Int) + 1) * 64 = (of2 : Int) := by omega
      have q2' : IntKind.i64.wrap (((p : Int) + 1) * 64) = (of2 : Int) := by rw [IntKind.wrap_i64]; omega
      have q3 : of2 - off = 64 := by omega
      have q4 : off ≤ of2 := by omega
      have q5 : of2 ≤ c := by omega
      have q6 : ¬ c = off := by omega
      have hV := (HV.out.below hbe (Nat.le_refl _)).part (off := off) (c := 64) (by omega) (fun i hi => HN.out (off + i) (by omega))
      have kR := hide1 (traw_any wr N (c - off) _ _ _ hV)
      have HOF := hide1 hoff
      clear hrow hbe hoff hof2 hV
      go_wp2_with fail
      go_at_call 46
      refine kR.out.mono ?_
      rintro e w3 ⟨ab, rfl, hH3, hb3⟩
      have glt := lt_heap HR.out
      have HH := hide1 hH3
      have HR3 : Hid (w3.heap[gr]? = some (rrow (rst L p 0) N)) := (hb3.block _ glt).trans HR.out
      have HB3 := hide1 (HB.out.trans (hb3.mono HB.out.size))
      obtain ⟨gh, hgh⟩ : ∃ gh, gh = wr.heap.size := ⟨_, rfl⟩
      rw [← hgh] at HH glt ⊢
      clear hH3 hb3 kR hgh HR HB q1 q1' q2 q2' q3 q4 q5 q6
      go_wp2_with fail
      go_at_call 47
      refine (kN _).out.mono ?_
      rintro e w' ⟨rfl, rfl⟩
      go_wp2
      go_loopw [31] (fun i wr => ∃ b : Nat, b ≤ nb ∧ i = .int .i64 b ∧ wr.heap[gr]? = some (rrow (rst L p b) N) ∧ Hrow wr gh 64 64 N ab (fun i => L (off + i)) ∧ Below w.heap.size w wr) (fun i _ => nb - (intOf i).toNat)
      case atStart => exact ⟨0, Nat.zero_le _, rfl, HR3.out, HH.out, HB3.out⟩
      case round =>
        obtain ⟨b, hb, rfl, hrow, hH, hbe⟩ := hrel
        clear HR3 HH HB3
        by_cases hlt2 : b < nb
        · have hb64 : b * 64 < N := by have := HNB.out; omega
          have kO := hide1 (ofColumns_any wr N b gh 64 ab _ hH (by rw [← HNE.out]; exact hlt2))
          have HR := hide1 hrow
          have HH := hide1 hH
          have HB := hide1 hbe
          clear hrow hH hbe
          go_wp2_with fail
          go_at_call 48
          refine kO.out.mono ?_
          rintro e w4 ⟨rfl, hb4⟩
          have HF : Hid ((fun i => chunk 64 (L (off + i)) b) = fun i => chunk 64 (L (p * 64 + i)) b) := by rw [HOF.out]; rfl
          have HF2 : Hid (∀ i, i < 64 → (fun i => chunk 64 (L (off + i)) b) i < 18446744073709551616) := fun i _ => chunk64_lt _ _
          obtain ⟨F, hF⟩ : ∃ F, F = fun i => chunk 64 (L (off + i)) b := ⟨_, rfl⟩
          rw [← hF] at HF HF2 ⊢
          clear hF kO
          have HU := hide1 (size57 F)
          have Hz : Hid ((u64s (sq (fun _ => 0))).toArray.size = (u64s (sq F)).toArray.size) := by simp [Hid, u64s, sq]
          have H1 : Hid ((u64s (sq F)).toArray.all (·.oneCell') = true) := all_one (u64s_one _)
          go_upto_region 12 with (first | (refine wpList_store_own rfl 99 (.tmp 8) (.tmp 36) rfl w4.heap.size rfl (u64s (sq F)).toArray rfl 99 _ (heap_alloc_new w4 (row64 99 (sq (fun _ => 0)))) HU.out Hz.out H1.out ?_))
          generalize hW6 : World.setRow _ _ _ = W6
          have y1 : W6.heap[w4.heap.size]? = some (row64 99 (sq F)) := by rw [← hW6]; exact setRow_heap _ _ _ _ 99 _ (heap_alloc_new w4 (row64 99 (sq (fun _ => 0))))
          have y2 : Below w4.heap.size w4 W6 := by rw [← hW6]; exact below_setRow (below_alloc1 _ _) (Nat.le_refl _) _
          obtain ⟨gs, hgs⟩ : ∃ gs, gs = w4.heap.size := ⟨_, rfl⟩
          rw [← hgs] at y1 y2 ⊢
          have kT := hide1 (turn_any 99 W6 gs _ y1 HF2.out)
          have z2 : wr.heap.size ≤ gs := by rw [hgs]; exact hb4.size
          have z3 := hb4.trans (y2.mono z2)
          clear hW6 HU Hz H1 y1 y2 hgs hb4
          go_wp2_with fail
          go_at_call 49
          refine kT.out.mono ?_
          rintro e w5 ⟨rfl, hr5, hb5⟩
          have z5 := z3.trans (hb5.mono z2)
          have gl := lt_heap HR.out
          have hR5 : w5.heap[gr]? = some (rrow (rst L p b) N) := (z5.block _ gl).trans HR.out
          have HH5 := hide1 (HH.out.below z5)
          have HB5 := hide1 (HB.out.trans (z5.mono HB.out.size))
          have kW := hide1 (toRows_any 99 w5 gs gr N p b _ _ hr5 hR5 (by omega) hb64 hN hlt)
          clear z3 z5 hr5 hb5 hR5 kT z2 gl HR HH HB
          go_wp2_with fail
          go_at_call 50
          refine kW.out.mono ?_
          rintro e w6 ⟨rfl, hr6, hk6⟩
          have HR6 := hide1 hr6
          have HK6 := hide1 hk6
          clear hr6 hk6 kW
          go_wp2
          go_roundw
          case rel =>
            refine ⟨b + 1, by omega, by go_num, ?_, HH5.out.kpr HK6.out glt, HB5.out.trans (HK6.out.bel.mono hle)⟩
            have h9 := HR6.out
            rw [h9, HF.out]
            unfold rrow
            rw [rcs_congr (fun j p' _ _ => rst_next L p b j p')]
          case measure => simp [intOf]; omega
        · obtain rfl : b = nb := by omega
          have HR := hide1 hrow
          have HB := hide1 hbe
          clear hrow hH hbe
          go_wp2
          go_roundw
          case rel =>
            refine ⟨p + 1, by omega, by go_num, ?_, HB.out⟩
            rw [HR.out]
            unfold rrow
            rw [rcs_congr (fun j p' hj _ => rst_over L hj (by have := HNB.out; omega))]
          case measure => simp [intOf]; omega
    · obtain rfl : p = 2 := by omega
      clear hrow hbe
      go_wp2
      go_ret2
      refine ⟨gr, rfl, ?_, HB.out⟩
      rw [HR.out]
      unfold rrow
      rw [show rcs (rst L 2 0) N = rcs (rowV L) N from rcs_congr (fun j p' _ hp' => if_pos (.inl hp'))]
end Go.Proofs.Ytdahnbojnleboaa.T
