/- Send. -/
import Derived.Test.YtlkkninnfiaedaaDoorJ45
namespace Go.Proofs.YtlkkninnfiaedaaDoor.I
open Go.RowKit Pg
set_option maxRecDepth 100000
attribute [local go_sem] not_any T.mf_any

/- a Vec put in another's place -/
theorem vrow_put {w : World} {g i n : Nat} {aa : Nat → Option Addr} {L : Nat → List Bool} {l : List Bool} (h : T.Vrow w g 128 n aa L) (hi : i < 128) {av : Option Addr} (hv : T.Vc (g + 1) w n av l) :
    T.Vrow ((w.setCell ⟨g, i * 2, none⟩ (.int .i64 n)).setCell ⟨g, i * 2 + 1, none⟩ (.slice av (T.need n 64) (T.need n 64))) g 128 n (fun j => if j = i then av else aa j) (fun j => if j = i then l else L j) := by
  obtain ⟨cs, h1, h2, h3⟩ := h.row
  refine ⟨⟨_, ?_, heap_setCell_same _ g (i * 2 + 1) _ _ _ (heap_setCell_same w g (i * 2) _ _ _ h2), fun j hj => ?_⟩, fun j hj => ?_⟩
  · simp [h1]
  · by_cases e : j = i
    · subst e
      rw [if_pos rfl]
      constructor
      · rw [Array.getElem?_setIfInBounds_ne (by omega), Array.getElem?_setIfInBounds_self_of_lt (by omega)]
      · rw [Array.getElem?_setIfInBounds_self_of_lt (by simp; omega)]
    · have := h3 j hj
      rw [if_neg e]
      constructor
      · rw [Array.getElem?_setIfInBounds_ne (by omega), Array.getElem?_setIfInBounds_ne (by omega)]; exact this.1
      · rw [Array.getElem?_setIfInBounds_ne (by omega), Array.getElem?_setIfInBounds_ne (by omega)]; exact this.2
  · by_cases e : j = i
    · simp only [if_pos e]
      exact (hv.setCell (by simp) _).setCell (by simp) _
    · simp only [if_neg e]
      exact ((h.vc j hj).setCell (by simp) _).setCell (by simp) _
theorem vrow_congr {w : World} {g k n : Nat} {aa : Nat → Option Addr} {L M : Nat → List Bool} (h : T.Vrow w g k n aa L) (he : ∀ i, i < k → L i = M i) : T.Vrow w g k n aa M :=
  ⟨h.row, fun i hi => he i hi ▸ h.vc i hi⟩

/- a box of a call on its way -/
structure On (w V : World) (o : Obj) : Prop where
  bel : Below w.heap.size w V
  h1 : V.heap[w.heap.size]? = some o
theorem On.start (w : World) (o : Obj) : On w (w.alloc o) o := ⟨(Below.refl _ _).alloc (Nat.le_refl _) _, heap_alloc_new _ _⟩
theorem On.to {w V V' : World} {o : Obj} (h : On w V o) (hb : Below V.heap.size V V') : On w V' o :=
  ⟨h.bel.trans (hb.mono h.bel.size), (hb.block _ (T.lt_heap h.h1)).trans h.h1⟩
theorem On.set {w V : World} {o : Obj} (h : On w V o) {g p : Nat} (v : Value) (hg : w.heap.size < g) : On w (V.setCell ⟨g, p, none⟩ v) o :=
  ⟨h.bel.setCell (by simp; omega) v, (heap_setCell_other _ _ _ _ (by simp; omega)).trans h.h1⟩
theorem On.lt {w V : World} {o : Obj} (h : On w V o) : w.heap.size < V.heap.size := T.lt_heap h.h1
theorem box3 {w : World} {g : Nat} {x y z : Value} {t : TypeId} (h : w.heap[g]? = some (.cells #[x, y, z] t (0, 0))) : w.rangeAt g 0 [x, y] ∧ w.cell? ⟨g, 2, none⟩ = some z := by
  refine ⟨fun j v hj => ?_, by rw [cell_of_row w g _ _ _ _ h]; rfl⟩
  rw [Nat.zero_add, cell_of_row w g _ _ _ _ h]
  match j, hj with
  | 0, hj => exact hj
  | 1, hj => exact hj

/- Send: there are not 128 columns -/
theorem send_few (d0 d1 : Nat) (K : Value) (F m c : Nat) (a : Option Addr) (w : World) (hm : m ≠ 128) (_hm2 : m ≤ 4096) :
    Calls Tryd.prog 28 #[.agg #[.int .u64 (d0 : Int), .int .u64 (d1 : Int), K], .int .u64 (F : Int), .slice a m c] w fun e w' => e = .returned (.tuple #[.slice none 0 0, .int .i64 11]) ∧ Below w.heap.size w w' := by
  have t1 : ((m : Int) != 128) = true := by rw [bne_iff_ne]; omega
  have t2 : ¬ (m : Int) = 128 := by omega
  have B := (On.start w (.cells #[.int .u64 (d0 : Int), .int .u64 (d1 : Int), K] 62)).bel
  go_enter Tryd.func28, Tryd.ntmps28
  go_wp2
  go_ret2
  exact ⟨rfl, B⟩

/- Send: the numbers may not be taken -/
theorem send_no (d0 d1 : Nat) (K : Value) (F m cc : Nat) (a : Option Addr) (n : Nat → Nat) (aa : Nat → Option Addr) (L : Nat → List Bool) (w : World) (hv : T.Vcs w 128 a n aa L) (hF : F < 18446744073709551616) (hc : nC F (n 0) = m) (hc0 : m ≠ 0) :
    Calls Tryd.prog 28 #[.agg #[.int .u64 (d0 : Int), .int .u64 (d1 : Int), K], .int .u64 (F : Int), .slice a 128 cc] w fun e w' => e = .returned (.tuple #[.slice none 0 0, .int .i64 (m : Int)]) ∧ Below w.heap.size w w' := by
  obtain ⟨g, o, rfl, hgl, hcs⟩ := hv.first (by omega)
  obtain ⟨N, hN⟩ : ∃ N, N = n 0 := ⟨_, rfl⟩
  have hN2 := hv.le 0 (by omega)
  have c0 := hcs 0 (by omega)
  rw [Nat.zero_mul, Nat.add_zero] at c0
  obtain ⟨a0, ha0⟩ : ∃ x, x = aa 0 := ⟨_, rfl⟩
  rw [← hN] at hc hN2
  rw [← hN, ← ha0] at c0
  have kL := fun w => hide1 (T.len_any (N : Int) (.slice a0 (T.need N 64) (T.need N 64)) w rfl)
  have kn := fun w => hide1 (numbered_any F N w hF hN2)
  rw [hc] at kn
  have tc : ((m : Int) != 0) = true := by rw [bne_iff_ne]; omega
  obtain ⟨W0, hW0⟩ : ∃ W0, W0 = w.alloc (.cells #[.int .u64 (d0 : Int), .int .u64 (d1 : Int), K] 62) := ⟨_, rfl⟩
  have A0 : Hid (On w W0 (.cells #[.int .u64 (d0 : Int), .int .u64 (d1 : Int), K] 62)) := by rw [hW0]; exact On.start _ _
  have e0 := (A0.out.bel.cell (p := ⟨g, o, none⟩) hgl).trans c0.1
  have e1 := (A0.out.bel.cell (p := ⟨g, o + 1, none⟩) hgl).trans c0.2
  clear hcs c0 hv hc ha0 hN
  go_enter Tryd.func28, Tryd.ntmps28
  go_upto_region 1 with (fail)
  rw [← hW0]
  clear hW0
  go_wp2_with fail
  go_at_call 17
  refine (kL _).out.mono ?_
  rintro e w1 ⟨rfl, rfl⟩
  have B1 : Hid (Below w.heap.size w (W0.alloc (.cells #[.int .i64 (N : Int), .slice a0 (T.need N 64) (T.need N 64)] 41))) := (A0.out.to (T.below_alloc1 _ _)).bel
  generalize W0.alloc (.cells #[.int .i64 (N : Int), .slice a0 (T.need N 64) (T.need N 64)] 41) = W1 at *
  clear e0 e1
  go_wp2_with fail
  go_at_call 44
  refine (kn _).out.mono ?_
  rintro e w1 ⟨rfl, rfl⟩
  go_wp2
  go_ret2
  exact ⟨rfl, B1.out⟩

/- Send: a column is longer or shorter than the first -/
theorem send_shape (d0 d1 : Nat) (K : Value) (fk : Nat → List Nat) (F cc : Nat) (a : Option Addr) (n : Nat → Nat) (aa : Nat → Option Addr) (L : Nat → List Bool) (w : World) (hv : T.Vcs w 128 a n aa L) (hK : Sds w K fk 128) (hF : F < 18446744073709551616) (hc : nC F (n 0) = 0) (hn : alf 128 n (n 0) = false) :
    Calls Tryd.prog 28 #[.agg #[.int .u64 (d0 : Int), .int .u64 (d1 : Int), K], .int .u64 (F : Int), .slice a 128 cc] w fun e w' => e = .returned (.tuple #[.slice none 0 0, .int .i64 11]) ∧ Below w.heap.size w w' := by
  obtain ⟨gk, ck, rfl, _, _⟩ := hK.at'
  obtain ⟨g, o, rfl, hgl, hcs⟩ := hv.first (by omega)
  have HV := hide1 hv
  obtain ⟨N, hN⟩ : ∃ N, N = n 0 := ⟨_, rfl⟩
  have hN2 := hv.le 0 (by omega)
  have c0 := hcs 0 (by omega)
  rw [Nat.zero_mul, Nat.add_zero] at c0
  obtain ⟨a0, ha0⟩ : ∃ x, x = aa 0 := ⟨_, rfl⟩
  rw [← hN] at hc hN2 hn
  rw [← hN, ← ha0] at c0
  have kL := fun w => hide1 (T.len_any (N : Int) (.slice a0 (T.need N 64) (T.need N 64)) w rfl)
  have kn := fun w => hide1 (numbered_any F N w hF hN2)
  have kA := fun w c h => hide1 (allOf_any w 128 c N (some ⟨g, o, none⟩) n aa L h (by omega) (by omega))
  rw [hc] at kn
  rw [hn] at kA
  have t1 : ((128 : Int) != 128) = false := by decide
  obtain ⟨W0, hW0⟩ : ∃ W0, W0 = w.alloc (.cells #[.int .u64 (d0 : Int), .int .u64 (d1 : Int), .slice (some ⟨gk, 0, none⟩) 128 ck] 62) := ⟨_, rfl⟩
  have A0 : Hid (On w W0 (.cells #[.int .u64 (d0 : Int), .int .u64 (d1 : Int), .slice (some ⟨gk, 0, none⟩) 128 ck] 62)) := by rw [hW0]; exact On.start _ _
  have e0 := (A0.out.bel.cell (p := ⟨g, o, none⟩) hgl).trans c0.1
  have e1 := (A0.out.bel.cell (p := ⟨g, o + 1, none⟩) hgl).trans c0.2
  clear hcs c0 hv hc ha0 hN hn
  go_enter Tryd.func28, Tryd.ntmps28
  go_upto_region 1 with (fail)
  rw [← hW0]
  clear hW0
  go_wp2_with fail
  go_at_call 17
  refine (kL _).out.mono ?_
  rintro e w1 ⟨rfl, rfl⟩
  have A1 := hide1 (A0.out.to (T.below_alloc1 W0 (.cells #[.int .i64 (N : Int), .slice a0 (T.need N 64) (T.need N 64)] 41)))
  generalize W0.alloc (.cells #[.int .i64 (N : Int), .slice a0 (T.need N 64) (T.need N 64)] 41) = W1 at *
  clear e0 e1
  have b2 := (box3 A1.out.h1).2
  go_wp2_with fail
  go_at_call 44
  refine (kn _).out.mono ?_
  rintro e w1 ⟨rfl, rfl⟩
  go_wp2_with fail
  go_at_call 48
  refine (kA _ _ (HV.out.below A1.out.bel (Nat.le_refl _))).out.mono ?_
  rintro e w2 ⟨rfl, hb⟩
  have B2 := hide1 (A1.out.to hb).bel
  clear hb b2
  go_wp2
  go_ret2
  exact ⟨rfl, B2.out⟩

/- the columns of who sends -/
def keyC (fk : Nat → List Nat) (d0 d1 F N : Nat) (L : Nat → List Bool) (i : Nat) : List Bool := if bt d0 d1 (i : Int) then xk (cl (fk i) F N) (fun _ => L i) 1 else cl (fk i) F N

set_option maxHeartbeats 8000000 in
theorem send_yes (d0 d1 : Nat) (K : Value) (fk : Nat → List Nat) (F N cc : Nat) (a : Option Addr) (n : Nat → Nat) (aa : Nat → Option Addr) (L : Nat → List Bool) (w : World) (hv : T.Vcs w 128 a n aa L) (hK : Sds w K fk 128) (hfk : ∀ i, (fk i).length = 32 ∧ Lt 256 (fk i)) (hd0 : d0 < 18446744073709551616) (hd1 : d1 < 18446744073709551616)
    (hc : nC F N = 0) (hF : F ≤ 67108864) (hN : N ≤ 4096) (hn : ∀ i, i < 128 → n i = N) (_hcc : 128 ≤ cc) :
    Calls Tryd.prog 28 #[.agg #[.int .u64 (d0 : Int), .int .u64 (d1 : Int), K], .int .u64 (F : Int), .slice a 128 cc] w fun e w' => ∃ gr, e = .returned (.tuple #[.slice (some ⟨gr, 0, none⟩) N N, .int .i64 0]) ∧ w'.heap[gr]? = some (T.rrow (T.rowV (keyC fk d0 d1 F N L)) N) ∧ Below w.heap.size w w' := by
  have HSK := hide1 hK
  obtain ⟨gk, ck, rfl, _, _⟩ := hK.at'
  obtain ⟨g, o, rfl, hgl, hcs⟩ := hv.first (by omega)
  have HV := hide1 hv
  have HCS : Hid (∀ i, i < 128 → w.cell? ⟨g, o + i * 2, none⟩ = some (.int .i64 (N : Int)) ∧ w.cell? ⟨g, o + i * 2 + 1, none⟩ = some (.slice (aa i) (T.need N 64) (T.need N 64))) := fun i hi => by
    have := hcs i hi
    rwa [hn i hi] at this
  have HVC : Hid (∀ i, i < 128 → T.Vc 0 w N (aa i) (L i)) := fun i hi => by
    have := hv.vc i hi
    rwa [hn i hi] at this
  have c0 := HCS.out 0 (by omega)
  rw [Nat.zero_mul, Nat.add_zero] at c0
  obtain ⟨a0, ha0⟩ : ∃ x, x = aa 0 := ⟨_, rfl⟩
  rw [← ha0] at c0
  have hN' : N ≤ 4194304 := by omega
  have kL := fun w => hide1 (T.len_any (N : Int) (.slice a0 (T.need N 64) (T.need N 64)) w rfl)
  have kn := fun w => hide1 (numbered_any F N w (by omega) hN')
  have kA := fun w c h => hide1 (allOf_any w 128 c N (some ⟨g, o, none⟩) n aa L h (by omega) (by omega))
  have kc := fun w h1 => hide1 (columns_any (.slice (some ⟨gk, 0, none⟩) 128 ck) fk F N w h1 hfk (by omega) (by omega))
  have kr := fun w c a aa L h1 h2 => hide1 (T.rows_yes w N c a (fun _ => N) aa L h1 h2 (fun _ _ => rfl) (by omega))
  have kb := fun (k : Nat) w => hide1 (bit_any d0 d1 (k : Int) w hd0 hd1)
  rw [hc] at kn
  rw [show alf 128 n N = true from decide_eq_true hn] at kA
  have t1 : ((128 : Int) != 128) = false := by decide
  obtain ⟨W0, hW0⟩ : ∃ W0, W0 = w.alloc (.cells #[.int .u64 (d0 : Int), .int .u64 (d1 : Int), .slice (some ⟨gk, 0, none⟩) 128 ck] 62) := ⟨_, rfl⟩
  have A0 : Hid (On w W0 (.cells #[.int .u64 (d0 : Int), .int .u64 (d1 : Int), .slice (some ⟨gk, 0, none⟩) 128 ck] 62)) := by rw [hW0]; exact On.start _ _
  have e0 := (A0.out.bel.cell (p := ⟨g, o, none⟩) hgl).trans c0.1
  have e1 := (A0.out.bel.cell (p := ⟨g, o + 1, none⟩) hgl).trans c0.2
  clear hcs c0 hv hc ha0 hn hK hfk
  go_enter Tryd.func28, Tryd.ntmps28
  go_upto_region 1 with (fail)
  rw [← hW0]
  clear hW0
  go_wp2_with fail
  go_at_call 17
  refine (kL _).out.mono ?_
  rintro e w1 ⟨rfl, rfl⟩
  have A1 := hide1 (A0.out.to (T.below_alloc1 W0 (.cells #[.int .i64 (N : Int), .slice a0 (T.need N 64) (T.need N 64)] 41)))
  generalize W0.alloc (.cells #[.int .i64 (N : Int), .slice a0 (T.need N 64) (T.need N 64)] 41) = W1 at *
  clear e0 e1
  have b2 := (box3 A1.out.h1).2
  go_wp2_with fail
  go_at_call 44
  refine (kn _).out.mono ?_
  rintro e w1 ⟨rfl, rfl⟩
  go_wp2_with fail
  go_at_call 48
  refine (kA _ _ (HV.out.below A1.out.bel (Nat.le_refl _))).out.mono ?_
  rintro e w2 ⟨rfl, hb⟩
  have A2 := hide1 (A1.out.to hb)
  clear hb b2 A1 A0
  have b2 := (box3 A2.out.h1).2
  go_wp2_with fail
  go_at_call 45
  refine (kc _ (HSK.out.below A2.out.bel (Nat.le_refl _))).out.mono ?_
  rintro e w3 ⟨a1, rfl, hr1, hb1⟩
  have A3 := hide1 (A2.out.to hb1)
  obtain ⟨g1, hg1⟩ : ∃ g, g = w2.heap.size := ⟨_, rfl⟩
  rw [← hg1] at hr1 ⊢
  have G1 : Shy (w.heap.size < g1) := ⟨by rw [hg1]; exact A2.out.lt⟩
  have V3 := hide1 hr1
  clear hb1 hr1 hg1 A2 b2 kc kA kn kL
  go_wp2
  go_loopw [50] (fun iv wr => ∃ (k : Nat) (ab : Nat → Option Addr), k ≤ 128 ∧ iv = .int .i64 k ∧ T.Vrow wr g1 128 N ab (fun i => if i < k then keyC fk d0 d1 F N L i else cl (fk i) F N) ∧ On w wr (.cells #[.int .u64 (d0 : Int), .int .u64 (d1 : Int), .slice (some ⟨gk, 0, none⟩) 128 ck] 62)) (fun iv _ => 128 - (intOf iv).toNat)
  case atStart => exact ⟨0, _, Nat.zero_le _, rfl, vrow_congr V3.out (fun i _ => (if_neg (by omega)).symm), A3.out⟩
  case round =>
    obtain ⟨k, ab, hk, rfl, hvr, hA⟩ := hrel
    clear V3 A3
    have VQ := hide1 hvr
    have HA := hide1 hA
    clear hvr hA
    by_cases hlt : k < 128
    · have hlt' : (k : Int) < 128 := by omega
      clear kr
      have f0 := (HA.out.bel.cell (p := ⟨g, o + k * 2, none⟩) (by simp; omega)).trans (HCS.out k hlt).1
      have f1 := (HA.out.bel.cell (p := ⟨g, o + k * 2 + 1, none⟩) (by simp; omega)).trans (HCS.out k hlt).2
      have VB := hide1 ((HVC.out k hlt).below HA.out.bel (Nat.le_refl _))
      obtain ⟨bk, hbk⟩ : ∃ x, x = aa k := ⟨_, rfl⟩
      rw [← hbk] at f1 VB
      clear hbk
      obtain ⟨gb, hgb⟩ : ∃ g, g = wr.heap.size := ⟨_, rfl⟩
      obtain ⟨V, hV⟩ : ∃ V, V = wr.alloc (.cells #[.int .i64 N, .slice bk (T.need N 64) (T.need N 64)] 41) := ⟨_, rfl⟩
      have hbw : Below wr.heap.size wr V := by rw [hV]; exact T.below_alloc1 _ _
      have VR := hide1 (VQ.out.below hbw)
      have AV := hide1 (HA.out.to hbw)
      have VCB := hide1 (VB.out.below hbw (Nat.le_refl _))
      have hbx : V.heap[gb]? = some (.cells #[.int .i64 N, .slice bk (T.need N 64) (T.need N 64)] 41 (0, 0)) := by rw [hV, hgb]; exact heap_alloc_new _ _
      have HBX := hide1 hbx
      go_upto_region 15 with (fail)
      rw [← hgb, ← hV]
      have rr := (box3 AV.out.h1).1
      clear hV hgb hbw f0 f1 VQ HA VB hbx
      go_wp2_with (first | (refine wpList_load_mid rfl 24 (.tmp 55) rfl w.heap.size 0 rfl [.int .u64 (d0 : Int), .int .u64 (d1 : Int)] _ rr Tryd.underlying24 rfl (by kernel_rfl) ?_) | fail)
      go_at_call 49
      refine (kb k _).out.mono ?_
      rintro e V2 ⟨rfl, hbV⟩
      have VR2 := hide1 (VR.out.below hbV)
      have AV2 := hide1 (AV.out.to hbV)
      have VCB2 := hide1 (VCB.out.below hbV (Nat.le_refl _))
      have HBX2 := hide1 ((hbV.block _ (T.lt_heap HBX.out)).trans HBX.out)
      clear rr hbV VR AV VCB HBX kb
      cases hbb : bt d0 d1 (k : Int) with
      | false =>
        have HBB := hide1 hbb
        clear hbb
        go_wp2
        go_roundw
        case rel =>
          refine ⟨k + 1, _, by omega, by go_num, vrow_congr VR2.out (fun i _ => ?_), AV2.out⟩
          by_cases e : i = k
          · rw [e, if_neg (by omega), if_pos (by omega), keyC, if_neg (by rw [HBB.out]; decide)]
          · by_cases h : i < k
            · rw [if_pos h, if_pos (by omega)]
            · rw [if_neg h, if_neg (by omega)]
        case measure => simp [intOf]; omega
      | true =>
        have HBB := hide1 hbb
        clear hbb
        obtain ⟨ak, hak⟩ : ∃ x, x = ab k := ⟨_, rfl⟩
        obtain ⟨cs1, _, hcs1, hd1'⟩ := VR2.out.row
        have VCA : Hid (T.Vc (g1 + 1) V2 N ak (cl (fk k) F N)) := by
          have := VR2.out.vc k hlt
          rw [if_neg (by omega)] at this
          rw [hak]
          exact this
        have CA : Hid (∀ W, Below V2.heap.size V2 W → W.cell? ⟨g1, k * 2, none⟩ = some (.int .i64 (N : Int)) ∧ W.cell? ⟨g1, k * 2 + 1, none⟩ = some (.slice ak (T.need N 64) (T.need N 64))) := fun W hW => by
          have h := (hW.block _ (T.lt_heap hcs1)).trans hcs1
          rw [cell_of_row W g1 _ _ _ _ h, cell_of_row W g1 _ _ _ _ h, hak]
          exact hd1' k hlt
        have CB : Hid (∀ W, Below V2.heap.size V2 W → W.cell? ⟨gb, 0, none⟩ = some (.int .i64 (N : Int)) ∧ W.cell? ⟨gb, 1, none⟩ = some (.slice bk (T.need N 64) (T.need N 64))) := fun W hW => by
          have h := T.box2 ((hW.block _ (T.lt_heap HBX2.out)).trans HBX2.out)
          exact ⟨h.1, h.2.1⟩
        clear hak hcs1 hd1'
        go_upto_region 16 with (fail)
        refine region_f (F := [13]) (S := fun W' => Below V2.heap.size V2 W') (by kernel_rfl) (Below.refl _ _).drew (fun hS => ?_)
        refine take_p 0 61 (.slice (some ⟨g1, 0, none⟩) 128 128) rfl rfl (by kernel_rfl) (by kernel_rfl) (by kernel_rfl) (fun _ _ _ h => h) rfl (fun w => by go_simp) ?_
        try simp only [List.setIfInBounds_toArray, List.set_cons_zero, List.set_cons_succ]
        refine take_p 1 62 (.int .i64 (k : Int)) rfl rfl (by kernel_rfl) (by kernel_rfl) (by kernel_rfl) (fun _ _ _ h => h) rfl (fun w => by go_simp) ?_
        try simp only [List.setIfInBounds_toArray, List.set_cons_zero, List.set_cons_succ]
        refine take_p 2 63 (.slice (some ⟨g1, 0, none⟩) 128 128) rfl rfl (by kernel_rfl) (by kernel_rfl) (by kernel_rfl) (fun _ _ _ h => h) rfl (fun w => by go_simp) ?_
        try simp only [List.setIfInBounds_toArray, List.set_cons_zero, List.set_cons_succ]
        refine take_p 3 64 (.int .i64 (k : Int)) rfl rfl (by kernel_rfl) (by kernel_rfl) (by kernel_rfl) (fun _ _ _ h => h) rfl (fun w => by go_simp) ?_
        try simp only [List.setIfInBounds_toArray, List.set_cons_zero, List.set_cons_succ]
        refine take_p 4 65 (.pointer (some ⟨g1, k * 2, none⟩)) rfl rfl (by kernel_rfl) (by kernel_rfl) (by kernel_rfl) (fun _ _ _ h => h) rfl (fun w => by go_simp) ?_
        try simp only [List.setIfInBounds_toArray, List.set_cons_zero, List.set_cons_succ]
        refine take_f 5 66 (.agg #[.int .i64 (N : Int), .slice ak (T.need N 64) (T.need N 64)]) [8, 9, 10, 11, 12, 13, 14] rfl rfl (by kernel_rfl) (by kernel_rfl) (by kernel_rfl) (by kernel_rfl) (by kernel_rfl) (by kernel_rfl) (fun _ _ _ h => h) rfl (fun w hSw => by have h1 := (CA.out w hSw).1; have h2 := (CA.out w hSw).2; go_simp) hS ?_
        try simp only [List.setIfInBounds_toArray, List.set_cons_zero, List.set_cons_succ]
        refine take_f 6 67 (.agg #[.int .i64 (N : Int), .slice bk (T.need N 64) (T.need N 64)]) [7, 8, 9, 10, 11, 12, 13, 14] rfl rfl (by kernel_rfl) (by kernel_rfl) (by kernel_rfl) (by kernel_rfl) (by kernel_rfl) (by kernel_rfl) (fun _ _ _ h => h) rfl (fun w hSw => by have h1 := (CB.out w hSw).1; have h2 := (CB.out w hSw).2; go_simp) hS ?_
        try simp only [List.setIfInBounds_toArray, List.set_cons_zero, List.set_cons_succ]
        refine ready_f 7 (o := { dst := some 68, op := Op.buildSlice 69 1 #[(0, Operand.tmp 67)], type := 69, pos := "iknp.go:61", after := #[{ on := 6, ground := Ground.data }], guard := none }) (by kernel_rfl) rfl (fun K hK => ?_)
        rw [if_pos (by rfl)]
        unfold Oper.wp
        rw [exec_build1 (n := N) (a := bk) _ rfl rfl]
        generalize hU : World.alloc _ _ = U
        have hSU : Below V2.heap.size V2 U := by rw [← hU]; exact hS.alloc (Nat.le_refl _) _
        have hUB : U.heap[V2.heap.size]? = some (.cells #[.int .i64 (N : Int), .slice bk (T.need N 64) (T.need N 64)] 41 (0, 0)) := by rw [← hU]; exact heap_alloc_new _ _
        refine hK.out _ _ (fun _ _ => hSU) ?_
        clear hK K
        try simp only [Act.put, List.setIfInBounds_toArray, List.set_cons_zero, List.set_cons_succ]
        clear hU
        have kX := hide1 (xor_any U 1 1 N 0 ak (some ⟨V2.heap.size, 0, none⟩) _ _ _ ((VCA.out.below hSU (Nat.le_refl _)).mono (Nat.zero_le _)) (vcs1 hUB ((VCB2.out.below hSU (Nat.le_refl _)).mono (Nat.zero_le _)) hN') (by omega) (by omega) hN')
        refine ready_f 8 (o := { dst := some 69, op := Op.call { callee := Callee.value (Operand.func 46), args := #[Operand.tmp 66, Operand.tmp 68], argTypes := #[41, 69] }, type := 43, pos := "iknp.go:61", after := #[{ on := 5, ground := Ground.data }, { on := 7, ground := Ground.data }], guard := none }) (by kernel_rfl) rfl (fun K hK => ?_)
        go_simp
        refine kX.out.mono ?_
        rintro e w1 ⟨an, rfl, hvn, hbn⟩
        have hS1 := hSU.trans (hbn.mono hSU.size)
        refine hK.out _ _ (fun _ _ => hS1) ?_
        clear hK K
        try simp only [Act.put, List.setIfInBounds_toArray, List.set_cons_zero, List.set_cons_succ]
        refine take_p 9 60 (.tuple #[.agg #[.int .i64 (N : Int), .slice an (T.need N 64) (T.need N 64)], .int .i64 0]) rfl rfl (by kernel_rfl) (by kernel_rfl) (by kernel_rfl) (fun _ _ _ h => h) rfl (fun w => by go_simp) ?_
        try simp only [List.setIfInBounds_toArray, List.set_cons_zero, List.set_cons_succ]
        refine take_p 10 70 (.agg #[.int .i64 (N : Int), .slice an (T.need N 64) (T.need N 64)]) rfl rfl (by kernel_rfl) (by kernel_rfl) (by kernel_rfl) (fun _ _ _ h => h) rfl (fun w => by go_simp) ?_
        try simp only [List.setIfInBounds_toArray, List.set_cons_zero, List.set_cons_succ]
        refine take_p 11 71 (.int .i64 0) rfl rfl (by kernel_rfl) (by kernel_rfl) (by kernel_rfl) (fun _ _ _ h => h) rfl (fun w => by go_simp) ?_
        try simp only [List.setIfInBounds_toArray, List.set_cons_zero, List.set_cons_succ]
        refine take_p 12 72 (.pointer (some ⟨g1, k * 2, none⟩)) rfl rfl (by kernel_rfl) (by kernel_rfl) (by kernel_rfl) (fun _ _ _ h => h) rfl (fun w => by go_simp) ?_
        try simp only [List.setIfInBounds_toArray, List.set_cons_zero, List.set_cons_succ]
        have V1 := hide1 (VR2.out.below hS1)
        have C1 : Hid (T.Vc (g1 + 1) w1 N an _) := hvn.mono (by have := hSU.size; have := T.lt_heap (hV3 _ VR2.out).choose_spec; omega)
        obtain ⟨⟨y0, e0⟩, e1, e2⟩ := V1.out.cells (j := k * 2) (by omega)
        obtain ⟨⟨y1, e3⟩, e4, _⟩ := V1.out.cells (j := k * 2 + 1) (by omega)
        refine ready_f 13 (o := { dst := none, op := Op.store 41 (Operand.tmp 72) (Operand.tmp 70), type := 0, pos := "iknp.go:61", after := #[{ on := 12, ground := Ground.data }, { on := 10, ground := Ground.data }, { on := 8, ground := Ground.chain }, { on := 0, ground := Ground.phase }, { on := 1, ground := Ground.phase }, { on := 2, ground := Ground.phase }, { on := 3, ground := Ground.phase }, { on := 4, ground := Ground.phase }, { on := 5, ground := Ground.phase }, { on := 6, ground := Ground.phase }, { on := 7, ground := Ground.phase }, { on := 8, ground := Ground.phase }, { on := 9, ground := Ground.phase }, { on := 10, ground := Ground.phase }, { on := 11, ground := Ground.textOnly Departure.lateStores }], guard := none }) (by kernel_rfl) rfl (fun K hK => ?_)
        rw [if_pos (by rfl)]
        go_simp
        refine hK.out _ _ (fun h => absurd (by decide) h) ?_
        clear hK K
        refine take_p 14 11 (.int .i64 0) rfl rfl (by kernel_rfl) (by kernel_rfl) (by kernel_rfl) (fun _ _ _ h => h) rfl (fun w => by go_simp) ?_
        try simp only [List.setIfInBounds_toArray, List.set_cons_zero, List.set_cons_succ]
        refine done_f (by kernel_rfl) ?_ _
        have V9 := hide1 (vrow_put V1.out hlt C1.out)
        have A1 := hide1 (AV2.out.to hS1)
        have A9 := hide1 ((A1.out.set (p := k * 2) (.int .i64 (N : Int)) G1.out).set (p := k * 2 + 1) (.slice an (T.need N 64) (T.need N 64)) G1.out)
        clear hS1 hSU hUB kX hvn hbn e0 e1 e2 e3 e4 V1 C1 A1 CA CB
        generalize World.setCell _ _ _ = W9 at *
        go_wp2
        go_roundw
        case rel =>
          refine ⟨k + 1, _, by omega, by go_num, vrow_congr V9.out (fun i _ => ?_), A9.out⟩
          by_cases e : i = k
          · rw [e, if_pos rfl, if_pos (by omega), keyC, if_pos HBB.out]
          · rw [if_neg e]
            by_cases h : i < k
            · rw [if_pos h, if_pos (by omega)]
            · rw [if_neg h, if_neg (by omega)]
        case measure => simp [intOf]; omega
    · obtain rfl : k = 128 := by omega
      have hvs := ((vrow_congr VQ.out (fun i hi => if_pos hi)).vcs hN')
      go_wp2_with fail
      go_at_call 47
      refine (kr _ 128 _ _ _ hvs (by omega)).out.mono ?_
      rintro e w5 ⟨gr, rfl, hrr, hb5⟩
      have A5 := hide1 (HA.out.to hb5)
      have RR := hide1 hrr
      clear hrr hb5 hvs
      go_wp2
      go_ret2
      exact ⟨gr, rfl, RR.out, A5.out.bel⟩
end Go.Proofs.YtlkkninnfiaedaaDoor.I
