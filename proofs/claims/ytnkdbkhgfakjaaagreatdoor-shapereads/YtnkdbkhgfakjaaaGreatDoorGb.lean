/- Get: the walk up to the class. -/
import Derived.Test.YtnkdbkhgfakjaaaGreatDoorGa
namespace Go.Proofs.YtnkdbkhgfakjaaaGreatDoor
open Go.RowKit
set_option maxRecDepth 100000
attribute [local go_sem] not_any mf_any

def row5 (l : List Int) : Obj := .cells (l.map (fun x => Value.int .i64 x)).toArray 54 (0, 0)
theorem row5_cell {w : World} {g k : Nat} {l : List Int} {x : Int} (h : w.heap[g]? = some (row5 l)) (hx : l[k]? = some x) : w.cell? ⟨g, k, none⟩ = some (.int .i64 x) := by
  rw [cell_of_row w g k _ _ _ h]
  simp [hx]
theorem row5_set {w : World} {g k : Nat} {l : List Int} (h : w.heap[g]? = some (row5 l)) (x : Int) : (w.setCell ⟨g, k, none⟩ (.int .i64 x)).heap[g]? = some (row5 (l.set k x)) := by
  rw [heap_setCell_same w g k _ _ _ h]
  simp [row5, List.map_set]
theorem ret_c1 {fn : Func} {p : Tmp} (h : fn.results = #[.cell p 26]) {R : Ending → World → Prop} {a : Act} {w : World} (g : Nat) (x y z s t : Value) (hp : a.tmps.getD p undef = .pointer (some ⟨g, 0, none⟩))
    (hg : w.heap[g]? = some (.cells #[x, y, z, s, t] 26 (0, 0))) (hd : a.defers = []) (hR : R (.returned (.agg #[x, y, z, s, t])) w) : bodyPost Tryz.prog fn R .ret a w := by
  refine bodyPost_ret_by (v := .agg #[x, y, z, s, t]) ?_ hd hR
  exact results_cell_row h _ w g 26 #[x, y, z, s, t] (0, 0) _ hp hg Tryz.underlying26 rfl (by kernel_rfl)
theorem five_at (f : Nat → Int) (j i : Nat) (hi : i < 5) : (five f j)[i]? = some (if i < j then f i else 0) := by
  rw [five, List.getElem?_map, List.getElem?_range hi]; rfl

theorem heap_box5_other {w : World} {b g : Nat} {o : Obj} {x y z s t : Value} (h : w.heap[b]? = some o) (hne : b ≠ g) :
    (((((w.setCell ⟨g, 0, none⟩ x).setCell ⟨g, 1, none⟩ y).setCell ⟨g, 2, none⟩ z).setCell ⟨g, 3, none⟩ s).setCell ⟨g, 4, none⟩ t).heap[b]? = some o :=
  (heap_setCell_other _ _ b _ hne).trans ((heap_setCell_other _ _ b _ hne).trans ((heap_setCell_other _ _ b _ hne).trans ((heap_setCell_other _ _ b _ hne).trans ((heap_setCell_other _ _ b _ hne).trans h))))

/- what Get leaves: the class, the first fault -/
def xC (s : ByteArray) : Cl := ⟨(xN s 0 : Nat), (xN s 1 : Nat), (xN s 2 : Nat), (xN s 3 : Nat), (xN s 4 : Nat)⟩
def gC (s : ByteArray) : Int := if 5 ≤ s.size then (xC s).chk else 12
def gF (s : ByteArray) : ByteArray := if gC s = 0 then ⟨#[]⟩ else CLASS
def gK (s : ByteArray) : Cl := if gC s = 0 then xC s else Cl.zero

set_option maxHeartbeats 4000000 in
theorem get_any (g : Nat) (s : ByteArray) (w : World) (hg : w.heap[g]? = some (rdr s 0 0 ⟨#[]⟩)) (hs : s.size ≤ 281474976710656) :
    Calls Tryz.prog 6 #[.pointer (some ⟨g, 0, none⟩), .string CLASS] w fun e w' => e = .returned (gK s).v ∧ w'.heap[g]? = some (rdr s (min 5 s.size) (gC s) (gF s)) ∧ But g w w' := by
  have kU := fun j w h => hide1 (rU8_step g j s w h hs)
  have kC := fun w => hide1 (check_any (xN s 0 : Nat) (xN s 1 : Nat) (xN s 2 : Nat) (xN s 3 : Nat) (xN s 4 : Nat) w)
  have hgl := lt_heap hg
  have HG := hide1 hg
  have hx := fun i => xN_lt s i
  have HX5 : Shy (five (fun i => ((xN s i : Nat) : Int)) 5 = [((xN s 0 : Nat) : Int), ((xN s 1 : Nat) : Int), ((xN s 2 : Nat) : Int), ((xN s 3 : Nat) : Int), ((xN s 4 : Nat) : Int)]) := ⟨rfl⟩
  obtain ⟨CL, hCL⟩ : ∃ t, t = CLASS := ⟨_, rfl⟩
  have HCL : Shy (CL = CLASS) := ⟨hCL⟩
  rw [← hCL] at kU ⊢
  clear hg hCL
  obtain ⟨V, hV⟩ : ∃ V, (gK s).v = V := ⟨_, rfl⟩
  obtain ⟨P, hP⟩ : ∃ P, rdr s (min 5 s.size) (gC s) (gF s) = P := ⟨_, rfl⟩
  rw [hV, hP]
  have HVV : Shy ((gK s).v = V) := ⟨hV⟩
  have HPP : Shy (rdr s (min 5 s.size) (gC s) (gF s) = P) := ⟨hP⟩
  clear hV hP
  unfold cls at *
  go_enter Tryz.func6, Tryz.ntmps6
  go_upto_region 2 with (fail)
  generalize hX : World.alloc (World.alloc w _) _ = X
  have HX : Hid (But g w X) := by rw [← hX]; exact But.of_below (two_below _ _)
  have H4 := hide1 (hX ▸ heap_alloc2_old w _ _)
  have H5 : Hid (X.heap[w.heap.size + 1]? = some (row5 (five (fun i => ((xN s i : Nat) : Int)) 0))) := by rw [← hX]; exact heap_alloc2_new w _ _
  have HGX : Hid (X.heap[g]? = some (rdr s 0 0 ⟨#[]⟩)) := by rw [← hX]; exact ((two_below _ _).block _ hgl).trans HG.out
  obtain ⟨b5, hb5⟩ : ∃ b, w.heap.size + 1 = b := ⟨_, rfl⟩
  obtain ⟨b4, hb4⟩ : ∃ b, w.heap.size = b := ⟨_, rfl⟩
  rw [hb5] at H5 ⊢
  rw [hb4] at H4 ⊢
  have n45 : b4 ≠ b5 := by omega
  have ng4 : g ≠ b4 := by omega
  have ng5 : g ≠ b5 := by omega
  have HB4 : Shy (w.heap.size ≤ b4) := ⟨by omega⟩
  have HB5 : Shy (w.heap.size ≤ b5) := ⟨by omega⟩
  clear hX hb4 hb5 HG
  go_wp2_with fail
  go_loopw [9] (fun i wr => ∃ j : Nat, j ≤ 5 ∧ i = .int .i64 j ∧ wr.heap[g]? = some (rdr s (min j s.size) (cN s j) (fN s j)) ∧ wr.heap[b5]? = some (row5 (five (fun i => ((xN s i : Nat) : Int)) j)) ∧ wr.heap[b4]? = X.heap[b4]? ∧ But g w wr) (fun i _ => 5 - (intOf i).toNat)
  case atStart => exact ⟨0, Nat.zero_le _, rfl, HGX.out, H5.out, rfl, HX.out⟩
  case round =>
    obtain ⟨j, hj, rfl, hr, h5, h4, hB⟩ := hrel
    have K5 := hide1 h5
    have K4 := hide1 h4
    have KB := hide1 hB
    by_cases hlt : j < 5
    · have ku := kU j wr hr
      clear hr h5 h4 hB kU
      have hxj := hx j
      have HFS : Shy ((five (fun i => ((xN s i : Nat) : Int)) j).set j ((xN s j : Nat) : Int) = five (fun i => ((xN s i : Nat) : Int)) (j + 1)) := ⟨five_set _ j⟩
      have hl4 : b4 < X.heap.size := lt_heap H4.out
      generalize xN s j = xj at *
      go_wp2_with fail
      refine ku.out.mono ?_
      rintro e w1 ⟨rfl, hr1, hb1⟩
      have l5 := lt_heap K5.out
      have r5 := (hb1.block _ l5 (by omega)).trans K5.out
      have r4 : w1.heap[b4]? = X.heap[b4]? := (hb1.block _ (lt_heap (K4.out.trans H4.out)) (by omega)).trans K4.out
      have R5 := hide1 r5
      have R4 := hide1 r4
      have RG := hide1 hr1
      have RB := hide1 (KB.out.trans hb1)
      have c5 := row5_cell r5 (five_at _ j j hlt)
      rw [if_neg (Nat.lt_irrefl _)] at c5
      have f5 : w1.frozen? ⟨b5, j, none⟩ = false := frozen_of_row w1 b5 j _ _ r5
      have l5' := lt_heap r5
      clear hb1 hr1 r5 r4
      go_wp2
      go_roundw
      case rel => exact ⟨j + 1, by omega, by go_num, (heap_setCell_other _ _ g _ ng5).trans RG.out, by rw [row5_set R5.out, HFS.out], (heap_setCell_other _ _ b4 _ n45).trans R4.out, RB.out.set_new HB5.out _⟩
      case measure => simp [intOf]; omega
    · obtain rfl : j = 5 := by omega
      rw [HX5.out] at h5
      have a0 := row5_cell (k := 0) h5 rfl
      have a1 := row5_cell (k := 1) h5 rfl
      have a2 := row5_cell (k := 2) h5 rfl
      have a3 := row5_cell (k := 3) h5 rfl
      have a4 := row5_cell (k := 4) h5 rfl
      have l5 := lt_heap h5
      have QG := hide1 hr
      clear h5 h4 hB hr kU HX5 hx
      by_cases hok : 5 ≤ s.size
      · rw [cN_ok hok, fN_ok hok] at QG
        by_cases hm : May (xN s 0 : Nat) (xN s 1 : Nat) (xN s 2 : Nat) (xN s 3 : Nat) (xN s 4 : Nat)
        · skip
          rw [chk_ok hm] at kC
          have hgc : gC s = 0 := by rw [gC, if_pos hok]; exact chk_ok hm
          have HR : Shy (Ending.returned (.agg #[.int .i64 ((xN s 0 : Nat) : Int), .int .i64 ((xN s 1 : Nat) : Int), .int .i64 ((xN s 2 : Nat) : Int), .int .i64 ((xN s 3 : Nat) : Int), .int .i64 ((xN s 4 : Nat) : Int)]) = Ending.returned V) := ⟨by rw [← HVV.out, gK, if_pos hgc]; rfl⟩
          have HP : Shy (some (rdr s (min 5 s.size) 0 ⟨#[]⟩) = some P) := ⟨by rw [← HPP.out, gF, if_pos hgc, hgc]⟩
          clear hgc HVV HPP hm
          generalize xN s 0 = x0 at *
          generalize xN s 1 = x1 at *
          generalize xN s 2 = x2 at *
          generalize xN s 3 = x3 at *
          generalize xN s 4 = x4 at *
          go_upto_region 8 with (fail)
          generalize hY : World.alloc wr _ = Y
          have HGY : Hid (Y.heap[g]? = some (rdr s (min 5 s.size) 0 ⟨#[]⟩)) := by rw [← hY]; exact keep_alloc QG.out _
          have H4Y : Hid (Y.heap[b4]? = some (.cells #[.int .i64 0, .int .i64 0, .int .i64 0, .int .i64 0, .int .i64 0] 26 (0, 0))) := by rw [← hY]; exact keep_alloc (K4.out.trans H4.out) _
          have H7Y := hide1 (hY ▸ heap_alloc_new wr _)
          have HBY : Hid (But g w Y) := by rw [← hY]; exact KB.out.trans (But.of_below (below1 _))
          obtain ⟨b7, hb7⟩ : ∃ b, wr.heap.size = b := ⟨_, rfl⟩
          rw [hb7] at H7Y ⊢
          have ng7 : g ≠ b7 := by have := lt_heap QG.out; omega
          have n47 : b4 ≠ b7 := by have := lt_heap (K4.out.trans H4.out); omega
          clear hY hb7 a0 a1 a2 a3 a4 l5 QG K5 K4 KB H4 H5 HX HGX
          obtain ⟨d0, d1, d2, d3, d4, l1⟩ := box5 H7Y.out
          go_wp2_with fail
          refine (kC _).out.mono ?_
          rintro e w1 ⟨rfl, hb⟩
          have G1 := hide1 ((hb.block _ (lt_heap HGY.out)).trans HGY.out)
          have F1 := hide1 ((hb.block _ (lt_heap H4Y.out)).trans H4Y.out)
          have S1 := hide1 ((hb.block _ (lt_heap H7Y.out)).trans H7Y.out)
          have BB1 := hide1 (HBY.out.trans (But.of_below hb))
          clear hb d0 d1 d2 d3 d4 l1 HGY H4Y H7Y HBY
          have kE := hide1 (err_none g (min 5 s.size) s ⟨#[]⟩ w1 G1.out)
          go_wp2_with fail
          refine kE.out.mono ?_
          rintro e w3 ⟨rfl, q, hw⟩
          have G3 : Hid (w3.heap[g]? = some (rdr s (min 5 s.size) 0 ⟨#[]⟩)) := by rw [hw]; exact G1.out
          have F3 : Hid (w3.heap[b4]? = some (.cells #[.int .i64 0, .int .i64 0, .int .i64 0, .int .i64 0, .int .i64 0] 26 (0, 0))) := by rw [hw]; exact F1.out
          have S3 : Hid (w3.heap[b7]? = some (.cells #[.int .i64 (x0 : Int), .int .i64 (x1 : Int), .int .i64 (x2 : Int), .int .i64 (x3 : Int), .int .i64 (x4 : Int)] 26 (0, 0))) := by rw [hw]; exact S1.out
          have B3 : Hid (But g w w3) := by rw [hw]; exact BB1.out.drewN q
          clear hw
          obtain ⟨d0, d1, d2, d3, d4, l1⟩ := box5 S3.out
          obtain ⟨c0, c1, c2, c3, c4, l0⟩ := box5 F3.out
          obtain ⟨p0, p1, p2, p3, p4⟩ := free5 F3.out
          go_wp2
          exact ret_c1 Tryz.results6 b4 _ _ _ _ _ rfl (set_box5 (w := w3) F3.out) rfl ⟨HR.out, by rw [heap_box5_other G3.out (by omega)]; exact HP.out, ((((B3.out.set_new HB4.out _).set_new HB4.out _).set_new HB4.out _).set_new HB4.out _).set_new HB4.out _⟩
        · skip
          have hne := chk_not hm
          obtain ⟨cx, hcx⟩ : ∃ cx, chk (xN s 0 : Nat) (xN s 1 : Nat) (xN s 2 : Nat) (xN s 3 : Nat) (xN s 4 : Nat) = cx := ⟨_, rfl⟩
          have HCX : Shy (cx ≠ 0) := ⟨by rw [← hcx]; exact hne⟩
          have hcb : (cx != 0) = true := by simpa using HCX.out
          rw [hcx] at kC
          have hgc : gC s = cx := by rw [gC, if_pos hok]; exact hcx
          have HR : Shy (Ending.returned (.agg #[.int .i64 0, .int .i64 0, .int .i64 0, .int .i64 0, .int .i64 0]) = Ending.returned V) := ⟨by rw [← HVV.out, gK, hgc, if_neg HCX.out]; rfl⟩
          have HP : Shy (some (rdr s (min 5 s.size) cx CL) = some P) := ⟨by rw [← HPP.out, gF, hgc, if_neg HCX.out, HCL.out]⟩
          clear hgc hcx hne HVV HPP hm
          generalize xN s 0 = x0 at *
          generalize xN s 1 = x1 at *
          generalize xN s 2 = x2 at *
          generalize xN s 3 = x3 at *
          generalize xN s 4 = x4 at *
          go_upto_region 8 with (fail)
          generalize hY : World.alloc wr _ = Y
          have HGY : Hid (Y.heap[g]? = some (rdr s (min 5 s.size) 0 ⟨#[]⟩)) := by rw [← hY]; exact keep_alloc QG.out _
          have H4Y : Hid (Y.heap[b4]? = some (.cells #[.int .i64 0, .int .i64 0, .int .i64 0, .int .i64 0, .int .i64 0] 26 (0, 0))) := by rw [← hY]; exact keep_alloc (K4.out.trans H4.out) _
          have H7Y := hide1 (hY ▸ heap_alloc_new wr _)
          have HBY : Hid (But g w Y) := by rw [← hY]; exact KB.out.trans (But.of_below (below1 _))
          obtain ⟨b7, hb7⟩ : ∃ b, wr.heap.size = b := ⟨_, rfl⟩
          rw [hb7] at H7Y ⊢
          have ng7 : g ≠ b7 := by have := lt_heap QG.out; omega
          have n47 : b4 ≠ b7 := by have := lt_heap (K4.out.trans H4.out); omega
          clear hY hb7 a0 a1 a2 a3 a4 l5 QG K5 K4 KB H4 H5 HX HGX
          obtain ⟨d0, d1, d2, d3, d4, l1⟩ := box5 H7Y.out
          go_wp2_with fail
          refine (kC _).out.mono ?_
          rintro e w1 ⟨rfl, hb⟩
          have G1 := hide1 ((hb.block _ (lt_heap HGY.out)).trans HGY.out)
          have F1 := hide1 ((hb.block _ (lt_heap H4Y.out)).trans H4Y.out)
          have S1 := hide1 ((hb.block _ (lt_heap H7Y.out)).trans H7Y.out)
          have BB1 := hide1 (HBY.out.trans (But.of_below hb))
          clear hb d0 d1 d2 d3 d4 l1 HGY H4Y H7Y HBY
          have kF := hide1 (fail_any g (min 5 s.size) s ⟨#[]⟩ CL cx w1 G1.out HCX.out)
          go_wp2_with fail
          refine kF.out.mono ?_
          rintro e w2 ⟨rfl, hw⟩
          have G2 : Hid (w2.heap[g]? = some (rdr s (min 5 s.size) cx CL)) := by rw [hw]; exact rd_fault G1.out cx CL
          have hbt : But g w1 w2 := by rw [hw]; exact (But.set g 3 w1 _).trans (But.set g 4 _ _)
          have F2 := hide1 ((hbt.block _ (lt_heap F1.out) (by omega)).trans F1.out)
          have S2 := hide1 ((hbt.block _ (lt_heap S1.out) (by omega)).trans S1.out)
          have BB2 := hide1 (BB1.out.trans hbt)
          clear hw hbt G1 F1 S1 BB1
          have kE := hide1 (err_some g (min 5 s.size) s CL cx w2 G2.out HCX.out)
          go_wp2_with fail
          refine kE.out.mono ?_
          rintro e w3 ⟨rfl, q, hw⟩
          have hb3 : Below w2.heap.size w2 w3 := by rw [hw]; exact belowN (below1 _) _
          have G3 := hide1 ((hb3.block _ (lt_heap G2.out)).trans G2.out)
          have F3 := hide1 ((hb3.block _ (lt_heap F2.out)).trans F2.out)
          have B3 := hide1 (BB2.out.trans (But.of_below hb3))
          clear hw hb3
          obtain ⟨c0, c1, c2, c3, c4, l0⟩ := box5 F3.out
          obtain ⟨p0, p1, p2, p3, p4⟩ := free5 F3.out
          go_wp2
          exact ret_c1 Tryz.results6 b4 _ _ _ _ _ rfl (set_box5 (w := w3) F3.out) rfl ⟨HR.out, by rw [heap_box5_other G3.out (by omega)]; exact HP.out, ((((B3.out.set_new HB4.out _).set_new HB4.out _).set_new HB4.out _).set_new HB4.out _).set_new HB4.out _⟩
      · rw [cN_no hok, fN_no hok, ← HCL.out] at QG
        by_cases hm : May (xN s 0 : Nat) (xN s 1 : Nat) (xN s 2 : Nat) (xN s 3 : Nat) (xN s 4 : Nat)
        · skip
          rw [chk_ok hm] at kC
          have hgc : gC s = 12 := by rw [gC, if_neg hok]
          have HR : Shy (Ending.returned (.agg #[.int .i64 0, .int .i64 0, .int .i64 0, .int .i64 0, .int .i64 0]) = Ending.returned V) := ⟨by rw [← HVV.out, gK, hgc, if_neg (by decide)]; rfl⟩
          have HP : Shy (some (rdr s (min 5 s.size) 12 CL) = some P) := ⟨by rw [← HPP.out, gF, hgc, if_neg (by decide), HCL.out]⟩
          clear hgc HVV HPP hm
          generalize xN s 0 = x0 at *
          generalize xN s 1 = x1 at *
          generalize xN s 2 = x2 at *
          generalize xN s 3 = x3 at *
          generalize xN s 4 = x4 at *
          go_upto_region 8 with (fail)
          generalize hY : World.alloc wr _ = Y
          have HGY : Hid (Y.heap[g]? = some (rdr s (min 5 s.size) 12 CL)) := by rw [← hY]; exact keep_alloc QG.out _
          have H4Y : Hid (Y.heap[b4]? = some (.cells #[.int .i64 0, .int .i64 0, .int .i64 0, .int .i64 0, .int .i64 0] 26 (0, 0))) := by rw [← hY]; exact keep_alloc (K4.out.trans H4.out) _
          have H7Y := hide1 (hY ▸ heap_alloc_new wr _)
          have HBY : Hid (But g w Y) := by rw [← hY]; exact KB.out.trans (But.of_below (below1 _))
          obtain ⟨b7, hb7⟩ : ∃ b, wr.heap.size = b := ⟨_, rfl⟩
          rw [hb7] at H7Y ⊢
          have ng7 : g ≠ b7 := by have := lt_heap QG.out; omega
          have n47 : b4 ≠ b7 := by have := lt_heap (K4.out.trans H4.out); omega
          clear hY hb7 a0 a1 a2 a3 a4 l5 QG K5 K4 KB H4 H5 HX HGX
          obtain ⟨d0, d1, d2, d3, d4, l1⟩ := box5 H7Y.out
          go_wp2_with fail
          refine (kC _).out.mono ?_
          rintro e w1 ⟨rfl, hb⟩
          have G1 := hide1 ((hb.block _ (lt_heap HGY.out)).trans HGY.out)
          have F1 := hide1 ((hb.block _ (lt_heap H4Y.out)).trans H4Y.out)
          have S1 := hide1 ((hb.block _ (lt_heap H7Y.out)).trans H7Y.out)
          have BB1 := hide1 (HBY.out.trans (But.of_below hb))
          clear hb d0 d1 d2 d3 d4 l1 HGY H4Y H7Y HBY
          have kE := hide1 (err_some g (min 5 s.size) s CL 12 w1 G1.out (by decide))
          go_wp2_with fail
          refine kE.out.mono ?_
          rintro e w3 ⟨rfl, q, hw⟩
          have hb3 : Below w1.heap.size w1 w3 := by rw [hw]; exact belowN (below1 _) _
          have G3 := hide1 ((hb3.block _ (lt_heap G1.out)).trans G1.out)
          have F3 := hide1 ((hb3.block _ (lt_heap F1.out)).trans F1.out)
          have B3 := hide1 (BB1.out.trans (But.of_below hb3))
          clear hw hb3
          obtain ⟨c0, c1, c2, c3, c4, l0⟩ := box5 F3.out
          obtain ⟨p0, p1, p2, p3, p4⟩ := free5 F3.out
          go_wp2
          exact ret_c1 Tryz.results6 b4 _ _ _ _ _ rfl (set_box5 (w := w3) F3.out) rfl ⟨HR.out, by rw [heap_box5_other G3.out (by omega)]; exact HP.out, ((((B3.out.set_new HB4.out _).set_new HB4.out _).set_new HB4.out _).set_new HB4.out _).set_new HB4.out _⟩
        · skip
          have hne := chk_not hm
          obtain ⟨cx, hcx⟩ : ∃ cx, chk (xN s 0 : Nat) (xN s 1 : Nat) (xN s 2 : Nat) (xN s 3 : Nat) (xN s 4 : Nat) = cx := ⟨_, rfl⟩
          have HCX : Shy (cx ≠ 0) := ⟨by rw [← hcx]; exact hne⟩
          have hcb : (cx != 0) = true := by simpa using HCX.out
          rw [hcx] at kC
          have hgc : gC s = 12 := by rw [gC, if_neg hok]
          have HR : Shy (Ending.returned (.agg #[.int .i64 0, .int .i64 0, .int .i64 0, .int .i64 0, .int .i64 0]) = Ending.returned V) := ⟨by rw [← HVV.out, gK, hgc, if_neg (by decide)]; rfl⟩
          have HP : Shy (some (rdr s (min 5 s.size) 12 CL) = some P) := ⟨by rw [← HPP.out, gF, hgc, if_neg (by decide), HCL.out]⟩
          clear hgc hcx hne HVV HPP hm
          generalize xN s 0 = x0 at *
          generalize xN s 1 = x1 at *
          generalize xN s 2 = x2 at *
          generalize xN s 3 = x3 at *
          generalize xN s 4 = x4 at *
          go_upto_region 8 with (fail)
          generalize hY : World.alloc wr _ = Y
          have HGY : Hid (Y.heap[g]? = some (rdr s (min 5 s.size) 12 CL)) := by rw [← hY]; exact keep_alloc QG.out _
          have H4Y : Hid (Y.heap[b4]? = some (.cells #[.int .i64 0, .int .i64 0, .int .i64 0, .int .i64 0, .int .i64 0] 26 (0, 0))) := by rw [← hY]; exact keep_alloc (K4.out.trans H4.out) _
          have H7Y := hide1 (hY ▸ heap_alloc_new wr _)
          have HBY : Hid (But g w Y) := by rw [← hY]; exact KB.out.trans (But.of_below (below1 _))
          obtain ⟨b7, hb7⟩ : ∃ b, wr.heap.size = b := ⟨_, rfl⟩
          rw [hb7] at H7Y ⊢
          have ng7 : g ≠ b7 := by have := lt_heap QG.out; omega
          have n47 : b4 ≠ b7 := by have := lt_heap (K4.out.trans H4.out); omega
          clear hY hb7 a0 a1 a2 a3 a4 l5 QG K5 K4 KB H4 H5 HX HGX
          obtain ⟨d0, d1, d2, d3, d4, l1⟩ := box5 H7Y.out
          go_wp2_with fail
          refine (kC _).out.mono ?_
          rintro e w1 ⟨rfl, hb⟩
          have G1 := hide1 ((hb.block _ (lt_heap HGY.out)).trans HGY.out)
          have F1 := hide1 ((hb.block _ (lt_heap H4Y.out)).trans H4Y.out)
          have S1 := hide1 ((hb.block _ (lt_heap H7Y.out)).trans H7Y.out)
          have BB1 := hide1 (HBY.out.trans (But.of_below hb))
          clear hb d0 d1 d2 d3 d4 l1 HGY H4Y H7Y HBY
          have kF := hide1 (fail_over g (min 5 s.size) s CL CL 12 cx w1 G1.out (by decide))
          go_wp2_with fail
          refine kF.out.mono ?_
          rintro e w2 ⟨rfl, hw⟩
          cases hw
          have kE := hide1 (err_some g (min 5 s.size) s CL 12 w1 G1.out (by decide))
          go_wp2_with fail
          refine kE.out.mono ?_
          rintro e w3 ⟨rfl, q, hw⟩
          have hb3 : Below w1.heap.size w1 w3 := by rw [hw]; exact belowN (below1 _) _
          have G3 := hide1 ((hb3.block _ (lt_heap G1.out)).trans G1.out)
          have F3 := hide1 ((hb3.block _ (lt_heap F1.out)).trans F1.out)
          have B3 := hide1 (BB1.out.trans (But.of_below hb3))
          clear hw hb3
          obtain ⟨c0, c1, c2, c3, c4, l0⟩ := box5 F3.out
          obtain ⟨p0, p1, p2, p3, p4⟩ := free5 F3.out
          go_wp2
          exact ret_c1 Tryz.results6 b4 _ _ _ _ _ rfl (set_box5 (w := w3) F3.out) rfl ⟨HR.out, by rw [heap_box5_other G3.out (by omega)]; exact HP.out, ((((B3.out.set_new HB4.out _).set_new HB4.out _).set_new HB4.out _).set_new HB4.out _).set_new HB4.out _⟩

end Go.Proofs.YtnkdbkhgfakjaaaGreatDoor
