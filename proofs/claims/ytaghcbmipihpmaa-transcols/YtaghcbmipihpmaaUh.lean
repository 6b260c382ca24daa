/- Cols. -/
import Derived.Test.YtaghcbmipihpmaaUg
namespace Go.Proofs.Ytaghcbmipihpmaa
open Go.RowKit
set_option maxRecDepth 100000
attribute [local go_sem] not_any mf_any

def colAt (R : Nat → Nat → Nat) (n nb p b k : Nat) : List Nat := (List.range nb).map fun q => if k / 64 < p ∨ (k / 64 = p ∧ q < b) then turned (blkF R n (k / 64) q) (k % 64) else 0
def colB (R : Nat → Nat → Nat) (n k : Nat) : List Bool := (List.range n).map fun j => (R j (k / 64)).testBit (k % 64)
theorem colAt_get {R : Nat → Nat → Nat} {n nb p b k q : Nat} (h : q < nb) : (colAt R n nb p b k)[q]? = some (if k / 64 < p ∨ (k / 64 = p ∧ q < b) then turned (blkF R n (k / 64) q) (k % 64) else 0) := by simp [colAt, h]
theorem colAt_zero (R : Nat → Nat → Nat) (n nb k : Nat) : colAt R n nb 0 0 k = List.replicate nb 0 := by
  refine List.ext_getElem? fun q => ?_
  by_cases hq : q < nb
  · rw [colAt_get hq, if_neg (by omega)]; simp [hq]
  · rw [List.getElem?_eq_none (by simp [colAt]; omega), List.getElem?_eq_none (by simp; omega)]
theorem colAt_over (R : Nat → Nat → Nat) (n nb p k : Nat) : colAt R n nb p nb k = colAt R n nb (p + 1) 0 k := by
  refine List.ext_getElem? fun q => ?_
  by_cases hq : q < nb
  · rw [colAt_get hq, colAt_get hq]
    by_cases h : k / 64 < p + 1
    · rw [if_pos (by omega), if_pos (by omega)]
    · rw [if_neg (by omega), if_neg (by omega)]
  · rw [List.getElem?_eq_none (by simp [colAt]; omega), List.getElem?_eq_none (by simp [colAt]; omega)]
theorem colAt_next (R : Nat → Nat → Nat) (n nb p b k : Nat) : laidTo (colAt R n nb p b) (p * 64) b (turned (blkF R n p b)) 64 k = colAt R n nb p (b + 1) k := by
  unfold laidTo
  refine List.ext_getElem? fun q => ?_
  by_cases hq : q < nb
  · rw [colAt_get hq]
    by_cases h : p * 64 ≤ k ∧ k < p * 64 + 64
    · have e1 : k / 64 = p := by omega
      have e2 : k - p * 64 = k % 64 := by omega
      rw [if_pos h, List.getElem?_set, show (colAt R n nb p b k).length = nb by simp [colAt], e2]
      by_cases hb : b = q
      · subst hb
        rw [if_pos rfl, if_pos hq, if_pos (by omega), e1]
      · rw [if_neg hb, colAt_get hq]
        by_cases h2 : q < b
        · rw [if_pos (by omega), if_pos (by omega)]
        · rw [if_neg (by omega), if_neg (by omega)]
    · rw [if_neg h, colAt_get hq]
      by_cases h2 : k / 64 < p
      · rw [if_pos (.inl h2), if_pos (.inl h2)]
      · rw [if_neg (by omega), if_neg (by omega)]
  · have l1 : ∀ c, (colAt R n nb p c k).length = nb := fun c => by simp [colAt]
    rw [show (colAt R n nb p (b + 1) k)[q]? = none from List.getElem?_eq_none (by rw [l1]; omega)]
    by_cases h : p * 64 ≤ k ∧ k < p * 64 + 64
    · rw [if_pos h, List.getElem?_eq_none (by rw [List.length_set, l1]; omega)]
    · rw [if_neg h, List.getElem?_eq_none (by rw [l1]; omega)]
theorem colAt_lt {w : World} {n : Nat} {a : Option Addr} {R : Nat → Nat → Nat} (h : Rws w n a R) {nb p b k j x : Nat} (hx : (colAt R n nb p b k)[j]? = some x) : x < 18446744073709551616 := by
  have hj : j < nb := by have := (List.getElem?_eq_some_iff.1 hx).1; simpa [colAt] using this
  rw [colAt_get hj] at hx
  cases hx
  split
  · exact turned_lt (fun i _ => blkF_lt h _ _ i) (Nat.mod_lt _ (by omega))
  · omega
theorem colAt_bits (R : Nat → Nat → Nat) (n k : Nat) (hk : k < 128) : bitsOf n (colAt R n (need n 64) 2 0 k) = colB R n k := by
  unfold bitsOf colB
  refine List.map_congr_left fun j hj => ?_
  have hjn := List.mem_range.1 hj
  have hq : j / 64 < need n 64 := by rw [need64]; omega
  rw [List.getD_eq_getElem?_getD, colAt_get hq, if_pos (by omega), Option.getD_some, turned_bit (Nat.mod_lt _ (by omega)) (Nat.mod_lt _ (by omega)), blkF, if_pos (by omega), show j / 64 * 64 + j % 64 = j by omega]

/- Cols on its way -/
structure Cst (w wr : World) (B1 b5 gh : Nat) (gi : Nat → Nat) (a : Option Addr) (n c nb : Nat) (F : Nat → List Nat) : Prop where
  c1 : wr.cell? ⟨B1, 0, none⟩ = some (.slice a n c)
  c5 : wr.cell? ⟨b5, 0, none⟩ = some (.slice (some ⟨gh, 0, none⟩) 128 128)
  wd : Wds gh wr gh gi 128 nb F
  bel : Below w.heap.size w wr
  ne : ∀ i, i < 128 → b5 ≠ gi i
  lt : B1 < gh
  le : w.heap.size ≤ gh
theorem Cst.below {w wr wr' : World} {B1 b5 gh : Nat} {gi : Nat → Nat} {a : Option Addr} {n c nb : Nat} {F : Nat → List Nat} (h : Cst w wr B1 b5 gh gi a n c nb F) (hb : Below wr.heap.size wr wr') : Cst w wr' B1 b5 gh gi a n c nb F :=
  ⟨(hb.cell (p := ⟨B1, 0, none⟩) (lt_cell h.c1)).trans h.c1, (hb.cell (p := ⟨b5, 0, none⟩) (lt_cell h.c5)).trans h.c5, h.wd.all hb, h.bel.trans (hb.mono h.bel.size), h.ne, h.lt, h.le⟩
theorem Cst.laid {w wr wr' : World} {B1 b5 gh : Nat} {gi : Nat → Nat} {a : Option Addr} {n c nb : Nat} {F G : Nat → List Nat} (h : Cst w wr B1 b5 gh gi a n c nb F) (hw : Wds gh wr' gh gi 128 nb G) (hk : Kpw gh wr wr' 128 gi) : Cst w wr' B1 b5 gh gi a n c nb G :=
  ⟨(hk.bel.cell (p := ⟨B1, 0, none⟩) h.lt).trans h.c1, (cell_heap (hk.oth b5 (lt_cell h.c5) h.ne) 0).trans h.c5, hw, h.bel.trans (hk.bel.mono h.le), h.ne, h.lt, h.le⟩

set_option maxHeartbeats 4000000 in
theorem cols_any (w : World) (n c : Nat) (a : Option Addr) (R : Nat → Nat → Nat) (hR : Rws w n a R) (hn : n ≤ 65536) (hc : n ≤ c) :
    Calls Try.prog 7 #[.slice a n c] w fun e w' => ∃ g aa, e = .returned (.tuple #[.slice (some ⟨g, 0, none⟩) 128 128, .int .i64 0]) ∧ Vcs w' 128 (some ⟨g, 0, none⟩) (fun _ => n) aa (colB R n) ∧ Below w.heap.size w w' := by
  obtain ⟨nb, hnb⟩ : ∃ nb, nb = need n 64 := ⟨_, rfl⟩
  have hnb1 : nb = (n + 63) / 64 := by rw [hnb, need64]
  have hnb2 : nb ≤ 1024 := by omega
  have kN : ∀ w, Hid (Calls Try.prog 19 #[.int .i64 n, .int .i64 64] w fun e w' => e = .returned (.int .i64 (nb : Nat)) ∧ w' = w) := fun w => by rw [hnb]; exact tneeded_any n 64 w (by omega) (.inr rfl)
  have kB : ∀ w, Hid (Calls Try.prog 20 #[.int .i64 128, .int .i64 nb] w fun e w' => e = .returned (.slice (some ⟨w.heap.size, 0, none⟩) 128 128) ∧ Wds w.heap.size w' w.heap.size (fun i => w.heap.size + 1 + i) 128 nb (fun _ => List.replicate nb 0) ∧ Below w.heap.size w w') := fun w => tblank_any 128 nb w (by omega) (by omega)
  have h1 : ¬ (65536 : Int) < (n : Int) := by omega
  have HNB : Shy (nb = (n + 63) / 64) := ⟨hnb1⟩
  have HNE : Shy (nb = need n 64) := ⟨hnb⟩
  have HR := hide1 hR
  clear hR hnb1 hnb
  obtain ⟨W1, hW1⟩ : ∃ W1, W1 = w.alloc (.cells #[.slice a n c] 22) := ⟨_, rfl⟩
  have X1 : Hid (W1.heap[w.heap.size]? = some (.cells #[.slice a n c] 22 (0, 0))) := by rw [hW1]; exact heap_alloc_new _ _
  have X2 : Hid (Below w.heap.size w W1) := by rw [hW1]; exact below_alloc1 _ _
  go_enter Try.func7, Try.ntmps7
  go_upto_region 3 with (fail)
  rw [← hW1]
  obtain ⟨B1, hB1⟩ : ∃ B1, B1 = w.heap.size := ⟨_, rfl⟩
  have HB1 := hide1 hB1
  rw [← hB1]
  rw [← hB1] at X1 X2
  clear hW1 hB1
  have x1 : W1.cell? ⟨B1, 0, none⟩ = some (.slice a n c) := by rw [cell_of_row W1 B1 0 _ _ _ X1.out]; rfl
  have x2 := lt_heap X1.out
  go_wp2_with fail
  go_at_call 19
  refine (kN _).out.mono ?_
  rintro e w' ⟨rfl, rfl⟩
  go_wp2_with fail
  go_at_call 20
  refine (kB _).out.mono ?_
  rintro e w1 ⟨rfl, hd, hb⟩
  obtain ⟨gh, hgh⟩ : ∃ gh, gh = w'.heap.size := ⟨_, rfl⟩
  rw [← hgh] at hd hb x2 ⊢
  have S0 : Hid (Cst w (w1.alloc (.cells #[.slice (some ⟨gh, 0, none⟩) 128 128] 54)) B1 w1.heap.size gh (fun i => gh + 1 + i) a n c nb (colAt R n nb 0 0)) := by
    have e1 : Below w1.heap.size w1 (w1.alloc (.cells #[.slice (some ⟨gh, 0, none⟩) 128 128] 54)) := below_alloc1 _ _
    refine ⟨?_, ?_, (hd.all e1).congr (fun i _ => (colAt_zero R n nb i).symm), ?_, fun i hi => ?_, x2, by rw [← HB1.out]; omega⟩
    · rw [e1.cell (p := ⟨B1, 0, none⟩) (by have := hb.size; simp; omega), hb.cell (p := ⟨B1, 0, none⟩) x2]; exact x1
    · rw [cell_of_row _ w1.heap.size 0 _ _ _ (heap_alloc_new w1 _)]; rfl
    · rw [← HB1.out]; exact (X2.out.trans (hb.mono (by omega))).alloc (by have := hb.size; omega) _
    · have := (hd.lt i hi).2; omega
  clear hd hb x1 x2 kN kB hgh X1 X2
  go_upto_region 5 with (fail)
  generalize w1.alloc (.cells #[.slice (some ⟨gh, 0, none⟩) 128 128] 54) = W5 at *
  generalize w1.heap.size = b5 at *
  generalize (fun i => gh + 1 + i) = gi at *
  go_wp2
  go_loopw [17] (fun i wr => ∃ p : Nat, p ≤ 2 ∧ i = .int .i64 p ∧ Cst w wr B1 b5 gh gi a n c nb (colAt R n nb p 0)) (fun i _ => 2 - (intOf i).toNat)
  case atStart => exact ⟨0, Nat.zero_le _, rfl, S0.out⟩
  case round =>
    obtain ⟨p, hp, rfl, hS⟩ := hrel
    clear S0
    by_cases hlt : p < 2
    · have HS := hide1 hS
      clear hS
      have hlt' : (p : Int) < 2 := by omega
      go_wp2
      obtain ⟨Z, hZ⟩ : ∃ Z, Z = wr := ⟨_, rfl⟩
      subst hZ
      go_loopw [21] (fun i wr => ∃ b : Nat, b ≤ nb ∧ i = .int .i64 b ∧ Cst w wr B1 b5 gh gi a n c nb (colAt R n nb p b)) (fun i _ => nb - (intOf i).toNat)
      case atStart => exact ⟨0, Nat.zero_le _, rfl, HS.out⟩
      case round =>
        obtain ⟨b, hb, rfl, hS⟩ := hrel
        clear HS
        by_cases hlt2 : b < nb
        · have hb64 : b * 64 < n := by have := HNB.out; omega
          have x1 := hS.c1
          have hR1 := HR.out.below hS.bel (Nat.le_refl _)
          have kO := hide1 (ofRows_any wr n c p b a R hR1 hb64 (by omega) hc (by omega))
          have HS := hide1 hS
          clear hS hR1
          go_wp2_with fail
          go_at_call 21
          refine kO.out.mono ?_
          rintro e w2 ⟨rfl, hb2⟩
          have hf2 := fun i (_ : i < 64) => blkF_lt HR.out p b i
          have HU := hide1 (size57 (blkF R n p b))
          have Hz : Hid ((u64s (sq (fun _ => 0))).toArray.size = (u64s (sq (blkF R n p b))).toArray.size) := by simp [Hid, u64s, sq]
          have H1 : Hid ((u64s (sq (blkF R n p b))).toArray.all (·.oneCell') = true) := all_one (u64s_one _)
          go_upto_region 12 with (first | (refine wpList_store_own rfl 57 (.tmp 8) (.tmp 27) rfl w2.heap.size rfl (u64s (sq (blkF R n p b))).toArray rfl 57 _ (heap_alloc_new w2 (row64 57 (sq (fun _ => 0)))) HU.out Hz.out H1.out ?_))
          generalize hW6 : World.setRow _ _ _ = W6
          have y1 : W6.heap[w2.heap.size]? = some (row64 57 (sq (blkF R n p b))) := by rw [← hW6]; exact setRow_heap _ _ _ _ 57 _ (heap_alloc_new w2 (row64 57 (sq (fun _ => 0))))
          have y2 : Below w2.heap.size w2 W6 := by rw [← hW6]; exact below_setRow (below_alloc1 _ _) (Nat.le_refl _) _
          obtain ⟨gs, hgs⟩ : ∃ gs, gs = w2.heap.size := ⟨_, rfl⟩
          rw [← hgs] at y1 y2 ⊢
          have kT := hide1 (turn_any 57 W6 gs _ y1 hf2)
          have z2 : wr.heap.size ≤ gs := by rw [hgs]; exact hb2.size
          have z3 := hb2.trans (y2.mono z2)
          clear hW6 HU Hz H1 y1 y2 hf2 hgs kO x1 hb2
          go_wp2_with fail
          go_at_call 22
          refine kT.out.mono ?_
          rintro e w3 ⟨rfl, hr3, hb3⟩
          have HS3 := hide1 (HS.out.below (z3.trans (hb3.mono z2)))
          have x5 := HS3.out.c5
          obtain ⟨off, hoff⟩ : ∃ off, off = p * 64 := ⟨_, rfl⟩
          have q1 : IntKind.i64.wrap ((p : Int) * 64) = (off : Int) := by rw [IntKind.wrap_i64]; omega
          have q1' : (p : Int) * 64 = (off : Int) := by omega
          have q2 : off ≤ 128 := by omega
          have q3 : ¬ 128 = off := by omega
          have q4 : off ≤ 64 := by omega
          have kC := hide1 (toColumns_any 57 gh w3 gs _ gh gi 128 nb _ off b (128 - off) (128 - off) hr3 HS3.out.wd (by omega) (by omega) hlt2 (fun i hi => by
            have := (HS.out.wd.lt i hi).2
            omega))
          have HOF := hide1 hoff
          clear hoff hr3 hb3 z3 z2 kT
          go_wp2_with fail
          go_at_call 23
          refine kC.out.mono ?_
          rintro e w4 ⟨rfl, hd4, hk4⟩
          have HS4 := hide1 (HS3.out.laid hd4 hk4)
          clear hd4 hk4 kC x5
          go_wp2
          go_roundw
          case rel =>
            refine ⟨b + 1, by omega, by go_num, ?_⟩
            have := HS4.out
            rw [HOF.out] at this
            exact ⟨this.c1, this.c5, this.wd.congr (fun i _ => colAt_next R n nb p b i), this.bel, this.ne, this.lt, this.le⟩
          case measure => simp [intOf]; omega
        · obtain rfl : b = nb := by omega
          have HS := hide1 hS
          clear hS
          go_wp2
          go_roundw
          case rel =>
            refine ⟨p + 1, by omega, by go_num, ?_⟩
            have := HS.out
            exact ⟨this.c1, this.c5, this.wd.congr (fun i _ => colAt_over R n b p i), this.bel, this.ne, this.lt, this.le⟩
          case measure => simp [intOf]; omega
    · obtain rfl : p = 2 := by omega
      have kK : Hid (Calls Try.prog 24 #[.func (.func 25) #[] #[.pointer (some ⟨B1, 0, none⟩), .pointer (some ⟨b5, 0, none⟩)]] wr fun e w' => Got wr w' n (colB R n) (fun _ => 0) e) := by
        refine coll_cols B1 b5 n (colB R n) (fun _ => 0) wr (by omega) (fun W i hi hb => ?_)
        have h := hS.below hb
        have hd := h.wd
        rw [HNE.out] at hd
        refine (cols1_any gh W n c i B1 b5 gh a gi _ h.c1 h.c5 hd (fun k x hx => colAt_lt HR.out hx) hi hn).mono ?_
        rintro e w' ⟨av, rfl, hv, hb'⟩
        rw [colAt_bits R n i hi] at hv
        exact ⟨n, av, _, rfl, hb', fun _ => ⟨rfl, rfl, hv⟩⟩
      have HBE := hide1 hS.bel
      clear hS
      go_wp2_with fail
      go_at_call 24
      refine kK.out.mono ?_
      rintro e w9 ⟨hb9, hg9⟩
      rcases hg9 with ⟨k, _, _, h9, _⟩ | ⟨_, g, aa, rfl, hv9⟩
      · exact absurd rfl h9
      · have HV9 := hide1 hv9
        have HB9 := hide1 hb9
        clear hv9 hb9 kK
        go_wp2
        go_ret2
        exact ⟨g, aa, rfl, HV9.out, HBE.out.trans (HB9.out.mono HBE.out.size)⟩
end Go.Proofs.Ytaghcbmipihpmaa
