/- The document's Get: the loop. -/
import Derived.Test.YtnkdbkhgfakjaaaGreatDoorGb
import Derived.Maps.AppendAt
import Derived.OwnWalk
namespace Go.Proofs.YtnkdbkhgfakjaaaGreatDoor
open Go.RowKit
set_option maxRecDepth 100000
attribute [local go_sem] not_any mf_any

theorem own_keep {w w' : World} {base : Nat} {e : TypeId} {size n : Nat} {v : Value} {xs : List Value} (h : w.ownsRow base e size v n xs) (hk : ∀ b, base ≤ b → b < w.heap.size → w'.heap[b]? = w.heap[b]?) : w'.ownsRow base e size v n xs := by
  refine ⟨h.1, ?_⟩
  rcases h.2 with h1 | ⟨g, cap, cur, rfl, hb, hg, h2⟩
  · exact .inl h1
  · exact .inr ⟨g, cap, cur, rfl, hb, (hk g hb (lt_heap hg)).trans hg, h2⟩
theorem own_set {w : World} {base g o : Nat} {e : TypeId} {size n : Nat} {v x : Value} {xs : List Value} (h : w.ownsRow base e size v n xs) (hg : g < base) : (w.setCell ⟨g, o, none⟩ x).ownsRow base e size v n xs :=
  own_keep h (fun b hb _ => heap_setCell_other w _ b x (by simp; omega))
theorem info3 : (Tryz.prog.info? 3).map (fun i => (i.zero, i.size, i.bytes)) = some (some (.int .i64 0), 1, 8) := by kernel_rfl
def ivs (f : Nat → Nat) (j : Nat) : List Value := (List.range j).map (fun i => Value.int .i64 ((f i : Nat) : Int))
theorem ivs_succ (f : Nat → Nat) (j : Nat) : ivs f (j + 1) = ivs f j ++ [.int .i64 ((f j : Nat) : Int)] := by simp [ivs, List.range_succ]
theorem ivs_at (f : Nat → Nat) (j i : Nat) (h : i < j) : (ivs f j)[i]? = some (.int .i64 ((f i : Nat) : Int)) := by
  rw [ivs, List.getElem?_map, List.getElem?_range h]; rfl

theorem keep_box3 {w : World} {b g : Nat} {o : Obj} {x y z : Value} (h : w.heap[b]? = some o) (hne : b ≠ g) : (((w.setCell ⟨g, 0, none⟩ x).setCell ⟨g, 1, none⟩ y).setCell ⟨g, 2, none⟩ z).heap[b]? = some o :=
  (heap_setCell_other _ _ b _ hne).trans ((heap_setCell_other _ _ b _ hne).trans ((heap_setCell_other _ _ b _ hne).trans h))
theorem results_cc {fn : Func} {p u : Tmp} {ty tz : TypeId} (h : fn.results = #[.cell p ty, .cell u tz]) (tmps : Array Value) (P : Program) (w : World) :
    (results fn tmps).run P w =
      ((asAddr (tmps.getD p undef)).run P w).andThen fun a w₁ => ((loadVar ty a).run P w₁).andThen fun x w₂ => ((asAddr (tmps.getD u undef)).run P w₂).andThen fun b w₃ => ((loadVar tz b).run P w₃).andThen fun y w₄ => .ok (.tuple #[x, y]) w₄ := by
  simp only [results, h]
  simp [Sem.run_bind, Result.andThen]
theorem ret_dc {fn : Func} {p u : Tmp} (h : fn.results = #[.cell p 29, .cell u 26]) {R : Ending → World → Prop} {a : Act} {w : World} (g g' : Nat) (x y z c0 c1 c2 c3 c4 : Value) (hp : a.tmps.getD p undef = .pointer (some ⟨g, 0, none⟩)) (hu : a.tmps.getD u undef = .pointer (some ⟨g', 0, none⟩))
    (hg : w.heap[g]? = some (.cells #[x, y, z] 29 (0, 0))) (hg' : w.heap[g']? = some (.cells #[c0, c1, c2, c3, c4] 26 (0, 0))) (hd : a.defers = []) (hR : R (.returned (.tuple #[.agg #[x, y, z], .agg #[c0, c1, c2, c3, c4]])) w) : bodyPost Tryz.prog fn R .ret a w := by
  refine bodyPost_ret_by (v := .tuple #[.agg #[x, y, z], .agg #[c0, c1, c2, c3, c4]]) ?_ hd hR
  have hl := run_loadVar_row (P := Tryz.prog) w g 29 29 #[x, y, z] (0, 0) _ hg Tryz.underlying29 rfl (by kernel_rfl)
  have hl' := run_loadVar_row (P := Tryz.prog) w g' 26 26 #[c0, c1, c2, c3, c4] (0, 0) _ hg' Tryz.underlying26 rfl (by kernel_rfl)
  rw [results_cc h, hp, hu]
  simp [asAddr, hl, hl', Result.andThen]

theorem At5.below {b : Nat} {x y z s t : Value} {W W' : World} (h : At5 b x y z s t W) (hb : Below W.heap.size W W') (hl : b < W.heap.size) : At5 b x y z s t W' :=
  ⟨(hb.cell hl).trans h.1, (hb.cell hl).trans h.2.1, (hb.cell hl).trans h.2.2.1, (hb.cell hl).trans h.2.2.2.1, (hb.cell hl).trans h.2.2.2.2⟩
def At3 (b : Nat) (x y z : Value) (W : World) : Prop := W.cell? ⟨b, 0, none⟩ = some x ∧ W.cell? ⟨b, 1, none⟩ = some y ∧ W.cell? ⟨b, 2, none⟩ = some z
theorem At3.below {b : Nat} {x y z : Value} {W W' : World} (h : At3 b x y z W) (hb : Below W.heap.size W W') (hl : b < W.heap.size) : At3 b x y z W' :=
  ⟨(hb.cell hl).trans h.1, (hb.cell hl).trans h.2.1, (hb.cell hl).trans h.2.2⟩
theorem At3.row {b g : Nat} {x y z : Value} {W : World} (h : At3 b x y z W) (hne : b ≠ g) (cs : Array Value) : At3 b x y z (W.setRow g cs) := by
  have e : ∀ k, (W.setRow g cs).cell? ⟨b, k, none⟩ = W.cell? ⟨b, k, none⟩ := fun k => cell_setRow_other W g cs ⟨b, k, none⟩ hne
  unfold At3
  rw [e, e, e]
  exact h

/- behind the loop -/
structure Dg (s : ByteArray) (w : World) (b1 b2 b3 : Nat) (W : World) (g cap : Nat) : Prop where
  row : W.heap[b1]? = some (drow s (min 5 s.size) (cN s 5))
  two : W.heap[b2]? = some (drow ⟨#[]⟩ 0 0)
  three : W.heap[b3]? = some (crow 0 0 0 0 0)
  bl : Below w.heap.size w W
  own : W.ownsRow (b3 + 1) 3 1 (.slice (some ⟨g, 0, none⟩) 5 cap) 5 (ivs (xN s) 5)

set_option maxHeartbeats 4000000 in
theorem rget_any (s : ByteArray) (w : World) (hs : s.size ≤ 281474976710656) :
    Calls Tryz.prog 7 #[dv s 0 0] w fun e w' => e = .returned (.tuple #[dv s (min 5 s.size) (gC s), (gK s).v]) ∧ Below w.heap.size w w' := by
  have mx := mixed
  have kU := fun j w => hide1 (dnum_step j s w hs)
  have hx := fun i => xN_lt s i
  obtain ⟨i0, hi, hi0, hi1, hi2⟩ := info_parts info3
  obtain ⟨V, hV⟩ : ∃ V, (gK s).v = V := ⟨_, rfl⟩
  obtain ⟨P, hP⟩ : ∃ P, dv s (min 5 s.size) (gC s) = P := ⟨_, rfl⟩
  rw [hV, hP]
  have HVV : Shy ((gK s).v = V) := ⟨hV⟩
  have HPP : Shy (dv s (min 5 s.size) (gC s) = P) := ⟨hP⟩
  clear hV hP
  unfold dv at kU
  show Calls Tryz.prog 7 #[.agg #[.string s, .int .i64 0, .int .i64 0]] w _
  go_enter Tryz.func7, Tryz.ntmps7
  go_upto_region 2 with (fail)
  generalize hX : World.alloc (World.alloc (World.alloc w _) _) _ = X
  have HX : Hid (Below w.heap.size w X) := by rw [← hX]; exact (two_below _ _).alloc (two_below _ _).size _
  obtain ⟨b1, hb1⟩ : ∃ b, w.heap.size = b := ⟨_, rfl⟩
  obtain ⟨b2, hb2⟩ : ∃ b, w.heap.size + 1 = b := ⟨_, rfl⟩
  obtain ⟨b3, hb3⟩ : ∃ b, w.heap.size + 1 + 1 = b := ⟨_, rfl⟩
  have H1 : Hid (X.heap[b1]? = some (drow s 0 0)) := by rw [← hX, ← hb1]; exact keep_alloc (heap_alloc2_old w _ _) _
  have H2 : Hid (X.heap[b2]? = some (drow ⟨#[]⟩ 0 0)) := by rw [← hX, ← hb2]; exact keep_alloc (heap_alloc2_new w _ _) _
  have H3 : Hid (X.heap[b3]? = some (crow 0 0 0 0 0)) := by
    have h := heap_alloc_new ((w.alloc (drow s 0 0)).alloc (drow ⟨#[]⟩ 0 0)) (crow 0 0 0 0 0)
    rw [show ((w.alloc (drow s 0 0)).alloc (drow ⟨#[]⟩ 0 0)).heap.size = w.heap.size + 1 + 1 by simp] at h
    rw [← hX, ← hb3]
    exact h
  have hXs : X.heap.size = b3 + 1 := by rw [← hX, ← hb3]; simp
  have HBS : Shy (w.heap.size = b1 ∧ b2 = b1 + 1 ∧ b3 = b1 + 2) := ⟨by omega, by omega, by omega⟩
  rw [hb3]
  rw [hb2]
  rw [hb1]
  have n12 : b1 ≠ b2 := by omega
  have n13 : b1 ≠ b3 := by omega
  have n23 : b2 ≠ b3 := by omega
  have l13 : b1 < b3 := by omega
  have l23 : b2 < b3 := by omega
  clear hX hb1 hb2 hb3
  go_wp2_with fail
  go_loopw [4, 5] (fun ov i wr => ∃ j : Nat, j ≤ 5 ∧ i = .int .i64 j ∧ wr.heap[b1]? = some (drow s (min j s.size) (cN s j)) ∧ wr.heap[b2]? = some (drow ⟨#[]⟩ 0 0) ∧ wr.heap[b3]? = some (crow 0 0 0 0 0) ∧ wr.ownsRow (b3 + 1) 3 1 ov j (ivs (xN s) j) ∧ Below w.heap.size w wr ∧ b3 < wr.heap.size) (fun _ i _ => 5 - (intOf i).toNat)
  case atStart => exact ⟨0, Nat.zero_le _, rfl, H1.out, H2.out, H3.out, World.ownsRow_nil _ _ _ _, HX.out, by omega⟩
  case round =>
    obtain ⟨j, hj, rfl, h1, h2, h3, hrow, hB, hsz⟩ := hrel
    by_cases hlt : j < 5
    · obtain ⟨la, lc, rfl⟩ := row_form hrow
      have kN := fun w => kU j w
      have HS := hide1 (ivs_succ (xN s) j)
      have hxj := hx j
      generalize hxx : xN s j = x at *
      have HW := hide1 (And.intro h1 (And.intro h2 (And.intro h3 (And.intro hrow hB))))
      unfold drow at h1
      obtain ⟨c0, c1, c2, _, _, _, l0⟩ := box3 h1
      clear h1 h2 h3 hrow hB hxx kU hx
      go_upto_region 6 with (go_at_call 20; refine (kN _).out.mono ?_; rintro e w2 ⟨rfl, hb2⟩; have HB2 := hide1 hb2; clear hb2)
      have l2 := HB2.out.size
      have R1 := hide1 ((HB2.out.block _ (lt_heap HW.out.1)).trans HW.out.1)
      have R2 := hide1 ((HB2.out.block _ (lt_heap HW.out.2.1)).trans HW.out.2.1)
      have R3 := hide1 ((HB2.out.block _ (lt_heap HW.out.2.2.1)).trans HW.out.2.2.1)
      have RO := hide1 (own_keep HW.out.2.2.2.1 (fun b _ hb => HB2.out.block b hb))
      have RB := hide1 (HW.out.2.2.2.2.trans (HB2.out.mono HW.out.2.2.2.2.size))
      have HOL := hide1 (fun b hb => RO.out.lt b hb)
      clear HW HB2 c0 c1 c2 l0
      generalize hV : World.alloc w2 _ = V'
      have HLV := hide1 (hV ▸ heap_alloc_new w2 _)
      have V1 := hide1 (hV ▸ keep_alloc R1.out _)
      have V2 := hide1 (hV ▸ keep_alloc R2.out _)
      have V3 := hide1 (hV ▸ keep_alloc R3.out _)
      have VO : Hid (V'.ownsRow (b3 + 1) 3 1 (.slice la j lc) j (ivs (xN s) j)) := by rw [← hV]; exact RO.out.alloc _
      have VB : Hid (Below w.heap.size w V') := by rw [← hV]; exact RB.out.alloc RB.out.size _
      have hVs : V'.heap.size = w2.heap.size + 1 := by rw [← hV]; simp
      obtain ⟨c0, c1, c2, _, _, _, l0⟩ := box3 HLV.out
      clear hV R1 R2 R3 RO RB
      generalize w2.heap.size = lb at *
      have e64 : IntKind.i64.wrap (x : Int) = (x : Int) := by rw [IntKind.wrap_i64]; omega
      have HAR := hide1 (And.intro hVs (And.intro l2 hsz))
      have hjj := hide1 hj
      have K12 := hide1 (And.intro n12 (And.intro n13 (And.intro l13 l23)))
      clear hVs l2 hsz hj hxj
      go_wp2_with (at_builtin; go_must (refine wpList_append_own _ rfl _ _ 58 rfl (b3 + 1) 3 i0 (.int .i64 0) 1 8 Tryz.underlying58 hi hi0 hi1 hi2 rfl (by decide) _ _ _ rfl (VO.out.alloc _) ⟨V'.heap.size, 0, none⟩ 1 1 [.int .i64 (x : Int)] rfl rfl (cell_one_new _ _ _) (by simp [Value.oneCell']) (by unfold maxLen; omega) (by omega) (by have := HAR.out; simp; omega) ?_); intro v' w3 hown' hgrow _; have HG := hide1 hgrow; obtain ⟨la', lc', rfl⟩ := row_form hown'; have HO3 := hide1 hown'; have h3 := (hgrow.block lb (by have := HAR.out; simp; omega) (fun e => by have := HOL.out lb e.symm; omega)).trans (keep_alloc HLV.out _); have h4 := (hgrow.block b1 (by have := HAR.out; simp; omega) (fun e => by have := HOL.out b1 e.symm; omega)).trans (keep_alloc V1.out _); have h5 := (hgrow.block b2 (by have := HAR.out; simp; omega) (fun e => by have := HOL.out b2 e.symm; omega)).trans (keep_alloc V2.out _); have h6 := (hgrow.block b3 (by have := HAR.out; simp; omega) (fun e => by have := HOL.out b3 e.symm; omega)).trans (keep_alloc V3.out _); unfold drow at h4; obtain ⟨d0, d1, d2, _, _, _, l3⟩ := box3 h3; obtain ⟨g0, g1, g2, f0, f1, f2, l4⟩ := box3 h4; have H4 := hide1 h4; have H5 := hide1 h5; have H6 := hide1 h6; clear h3 h4 h5 h6 hown' hgrow)
      go_roundw
      case rel =>
        obtain ⟨q1, q2, q3⟩ := HAR.out
        obtain ⟨t1, t2, t3⟩ := HBS.out
        have l6 := lt_heap H6.out
        refine ⟨j + 1, by omega, by go_num, set_box3 H4.out, keep_box3 H5.out (by omega), keep_box3 H6.out (by omega), ?_, ?_, ?_⟩
        · rw [HS.out]
          exact own_set (own_set (own_set HO3.out (by omega)) (by omega)) (by omega)
        · exact below_box3 ((VB.out.alloc VB.out.size _).grown HG.out (by have := VB.out.size; simp; omega) (fun b hb => by have := (HOL.out b hb).1; omega)) (by omega)
        · simpa using l6
      case measure => simp [intOf]; omega
    · obtain rfl : j = 5 := by omega
      have kC := fun w => hide1 (rcheck_any (xN s 0 : Nat) (xN s 1 : Nat) (xN s 2 : Nat) (xN s 3 : Nat) (xN s 4 : Nat) w)
      have kF := fun cx w => hide1 (failed_any s (min 5 s.size) 0 cx w)
      unfold dv at kF
      unfold cls at kC
      obtain ⟨gn, cap, rfl, hgb, hgl⟩ := row_some hrow (by omega)
      have a0 := hrow.cellAt 0 (by omega)
      have a1 := hrow.cellAt 1 (by omega)
      have a2 := hrow.cellAt 2 (by omega)
      have a3 := hrow.cellAt 3 (by omega)
      have a4 := hrow.cellAt 4 (by omega)
      rw [ivs_at _ 5 _ (by omega)] at a0 a1 a2 a3 a4
      have Q1 := hide1 h1
      have Q2 := hide1 h2
      have Q3 := hide1 h3
      have QB := hide1 hB
      clear h1 h2 h3 hB hrow kU hx H1 H2 H3 HX
      by_cases hok : 5 ≤ s.size
      · rw [cN_ok hok] at Q1
        have HSN : Shy (At5 gn (.int .i64 ((xN s 0 : Nat) : Int)) (.int .i64 ((xN s 1 : Nat) : Int)) (.int .i64 ((xN s 2 : Nat) : Int)) (.int .i64 ((xN s 3 : Nat) : Int)) (.int .i64 ((xN s 4 : Nat) : Int)) wr ∧ gn < wr.heap.size) := ⟨⟨a0, a1, a2, a3, a4⟩, hgl⟩
        by_cases hm : May (xN s 0 : Nat) (xN s 1 : Nat) (xN s 2 : Nat) (xN s 3 : Nat) (xN s 4 : Nat)
        · rw [chk_ok hm] at kC
          have hgc : gC s = 0 := by rw [gC, if_pos hok]; exact chk_ok hm
          have HR : Shy (Ending.returned (.tuple #[.agg #[.string s, .int .i64 ((min 5 s.size : Nat) : Int), .int .i64 0], .agg #[.int .i64 ((xN s 0 : Nat) : Int), .int .i64 ((xN s 1 : Nat) : Int), .int .i64 ((xN s 2 : Nat) : Int), .int .i64 ((xN s 3 : Nat) : Int), .int .i64 ((xN s 4 : Nat) : Int)]]) = Ending.returned (.tuple #[P, V])) := ⟨by rw [← HVV.out, ← HPP.out, gK, hgc, if_pos rfl]; rfl⟩
          clear hgc HVV HPP hm kF
          generalize xN s 0 = x0 at *
          generalize xN s 1 = x1 at *
          generalize xN s 2 = x2 at *
          generalize xN s 3 = x3 at *
          generalize xN s 4 = x4 at *
          generalize min 5 s.size = k5 at *
          obtain ⟨c0, c1, c2, _, _, _, l0⟩ := box3 (show wr.heap[b1]? = some (.cells #[.string s, .int .i64 (k5 : Int), .int .i64 0] 29 (0, 0)) from Q1.out)
          go_upto_region 10 with (fail)
          clear c0 c1 c2 l0 a0 a1 a2 a3 a4
          refine region_f (F := [17]) (S := fun W => At5 gn (.int .i64 (x0 : Int)) (.int .i64 (x1 : Int)) (.int .i64 (x2 : Int)) (.int .i64 (x3 : Int)) (.int .i64 (x4 : Int)) W ∧ gn < W.heap.size) (by kernel_rfl) HSN.out (fun hS => ?_)
          refine take_p 0 29 (.slice (some ⟨gn, 0, none⟩) 5 cap) rfl rfl (by kernel_rfl) (by kernel_rfl) (by kernel_rfl) (fun _ _ _ h => h) rfl (fun w => by go_simp) ?_
          try simp only [List.setIfInBounds_toArray, List.set_cons_zero, List.set_cons_succ]
          refine take_p 1 30 (.pointer (some ⟨gn, 0, none⟩)) rfl rfl (by kernel_rfl) (by kernel_rfl) (by kernel_rfl) (fun _ _ _ h => h) rfl (fun w => by go_simp) ?_
          try simp only [List.setIfInBounds_toArray, List.set_cons_zero, List.set_cons_succ]
          refine take_f 2 31 (.int .i64 (x0 : Int)) [15, 17] rfl rfl (by kernel_rfl) (by kernel_rfl) (by kernel_rfl) (by kernel_rfl) (by kernel_rfl) (by kernel_rfl) (fun _ _ _ h => h) rfl (fun w hSw => by obtain ⟨⟨g0, g1, g2, g3, g4⟩, gl⟩ := hSw; go_simp) hS ?_
          try simp only [List.setIfInBounds_toArray, List.set_cons_zero, List.set_cons_succ]
          refine take_p 3 32 (.slice (some ⟨gn, 0, none⟩) 5 cap) rfl rfl (by kernel_rfl) (by kernel_rfl) (by kernel_rfl) (fun _ _ _ h => h) rfl (fun w => by go_simp) ?_
          try simp only [List.setIfInBounds_toArray, List.set_cons_zero, List.set_cons_succ]
          refine take_p 4 33 (.pointer (some ⟨gn, 1, none⟩)) rfl rfl (by kernel_rfl) (by kernel_rfl) (by kernel_rfl) (fun _ _ _ h => h) rfl (fun w => by go_simp) ?_
          try simp only [List.setIfInBounds_toArray, List.set_cons_zero, List.set_cons_succ]
          refine take_f 5 34 (.int .i64 (x1 : Int)) [15, 17] rfl rfl (by kernel_rfl) (by kernel_rfl) (by kernel_rfl) (by kernel_rfl) (by kernel_rfl) (by kernel_rfl) (fun _ _ _ h => h) rfl (fun w hSw => by obtain ⟨⟨g0, g1, g2, g3, g4⟩, gl⟩ := hSw; go_simp) hS ?_
          try simp only [List.setIfInBounds_toArray, List.set_cons_zero, List.set_cons_succ]
          refine take_p 6 35 (.slice (some ⟨gn, 0, none⟩) 5 cap) rfl rfl (by kernel_rfl) (by kernel_rfl) (by kernel_rfl) (fun _ _ _ h => h) rfl (fun w => by go_simp) ?_
          try simp only [List.setIfInBounds_toArray, List.set_cons_zero, List.set_cons_succ]
          refine take_p 7 36 (.pointer (some ⟨gn, 2, none⟩)) rfl rfl (by kernel_rfl) (by kernel_rfl) (by kernel_rfl) (fun _ _ _ h => h) rfl (fun w => by go_simp) ?_
          try simp only [List.setIfInBounds_toArray, List.set_cons_zero, List.set_cons_succ]
          refine take_f 8 37 (.int .i64 (x2 : Int)) [15, 17] rfl rfl (by kernel_rfl) (by kernel_rfl) (by kernel_rfl) (by kernel_rfl) (by kernel_rfl) (by kernel_rfl) (fun _ _ _ h => h) rfl (fun w hSw => by obtain ⟨⟨g0, g1, g2, g3, g4⟩, gl⟩ := hSw; go_simp) hS ?_
          try simp only [List.setIfInBounds_toArray, List.set_cons_zero, List.set_cons_succ]
          refine take_p 9 38 (.slice (some ⟨gn, 0, none⟩) 5 cap) rfl rfl (by kernel_rfl) (by kernel_rfl) (by kernel_rfl) (fun _ _ _ h => h) rfl (fun w => by go_simp) ?_
          try simp only [List.setIfInBounds_toArray, List.set_cons_zero, List.set_cons_succ]
          refine take_p 10 39 (.pointer (some ⟨gn, 3, none⟩)) rfl rfl (by kernel_rfl) (by kernel_rfl) (by kernel_rfl) (fun _ _ _ h => h) rfl (fun w => by go_simp) ?_
          try simp only [List.setIfInBounds_toArray, List.set_cons_zero, List.set_cons_succ]
          refine take_f 11 40 (.int .i64 (x3 : Int)) [15, 17] rfl rfl (by kernel_rfl) (by kernel_rfl) (by kernel_rfl) (by kernel_rfl) (by kernel_rfl) (by kernel_rfl) (fun _ _ _ h => h) rfl (fun w hSw => by obtain ⟨⟨g0, g1, g2, g3, g4⟩, gl⟩ := hSw; go_simp) hS ?_
          try simp only [List.setIfInBounds_toArray, List.set_cons_zero, List.set_cons_succ]
          refine take_p 12 41 (.slice (some ⟨gn, 0, none⟩) 5 cap) rfl rfl (by kernel_rfl) (by kernel_rfl) (by kernel_rfl) (fun _ _ _ h => h) rfl (fun w => by go_simp) ?_
          try simp only [List.setIfInBounds_toArray, List.set_cons_zero, List.set_cons_succ]
          refine take_p 13 42 (.pointer (some ⟨gn, 4, none⟩)) rfl rfl (by kernel_rfl) (by kernel_rfl) (by kernel_rfl) (fun _ _ _ h => h) rfl (fun w => by go_simp) ?_
          try simp only [List.setIfInBounds_toArray, List.set_cons_zero, List.set_cons_succ]
          refine take_f 14 43 (.int .i64 (x4 : Int)) [15, 17] rfl rfl (by kernel_rfl) (by kernel_rfl) (by kernel_rfl) (by kernel_rfl) (by kernel_rfl) (by kernel_rfl) (fun _ _ _ h => h) rfl (fun w hSw => by obtain ⟨⟨g0, g1, g2, g3, g4⟩, gl⟩ := hSw; go_simp) hS ?_
          try simp only [List.setIfInBounds_toArray, List.set_cons_zero, List.set_cons_succ]
          refine take_p 15 44 (.agg #[.int .i64 (x0 : Int), .int .i64 (x1 : Int), .int .i64 (x2 : Int), .int .i64 (x3 : Int), .int .i64 (x4 : Int)]) rfl rfl (by kernel_rfl) (by kernel_rfl) (by kernel_rfl) (fun _ _ _ h => h) rfl (fun w => by go_simp) ?_
          try simp only [List.setIfInBounds_toArray, List.set_cons_zero, List.set_cons_succ]
          refine ready_f 16 (o := { dst := some 8, op := Op.alloc 26, type := 0, pos := "ref.go:133", after := #[], guard := none }) (by kernel_rfl) rfl (fun K hK => ?_)
          go_simp
          refine hK.out _ _ (fun _ h => ⟨h.1.below (below1 _) h.2, by have := h.2; simp; omega⟩) ?_
          clear hK K
          try simp only [Act.put, List.setIfInBounds_toArray, List.set_cons_zero, List.set_cons_succ]
          refine ready_f 17 (o := { dst := none, op := Op.store 26 (Operand.tmp 8) (Operand.tmp 44), type := 0, pos := "ref.go:133", after := #[{ on := 16, ground := Ground.data }, { on := 15, ground := Ground.data }, { on := 0, ground := Ground.phase }, { on := 1, ground := Ground.phase }, { on := 2, ground := Ground.phase }, { on := 3, ground := Ground.phase }, { on := 4, ground := Ground.phase }, { on := 5, ground := Ground.phase }, { on := 6, ground := Ground.phase }, { on := 7, ground := Ground.phase }, { on := 8, ground := Ground.phase }, { on := 9, ground := Ground.phase }, { on := 10, ground := Ground.phase }, { on := 11, ground := Ground.phase }, { on := 12, ground := Ground.phase }, { on := 13, ground := Ground.phase }, { on := 14, ground := Ground.phase }, { on := 15, ground := Ground.phase }, { on := 16, ground := Ground.phase }], guard := none }) (by kernel_rfl) rfl (fun K hK => ?_)
          rw [if_pos (by rfl)]
          refine wp_store_row 26 _ _ rfl wr.heap.size _ rfl rfl 26 _ (heap_alloc_new wr _) (by kernel_rfl) rfl (by kernel_rfl) ?_
          refine hK.out _ _ (fun h => absurd (by decide) h) ?_
          clear hK K
          refine done_f (by kernel_rfl) ?_ _
          generalize hY : World.setRow _ wr.heap.size _ = Y
          have ew : ∀ b, b ≠ wr.heap.size → b < wr.heap.size → Y.heap[b]? = wr.heap[b]? := fun b hb hl => by rw [← hY]; exact (setRow_other _ _ b _ hb).trans (Below.heap_alloc wr _ b hl)
          have L1 := hide1 ((ew b1 (by have := lt_heap Q1.out; omega) (lt_heap Q1.out)).trans Q1.out)
          have L2 := hide1 ((ew b2 (by have := lt_heap Q2.out; omega) (lt_heap Q2.out)).trans Q2.out)
          have L3 := hide1 ((ew b3 (by have := lt_heap Q3.out; omega) (lt_heap Q3.out)).trans Q3.out)
          have L8 := hide1 (hY ▸ setRow_heap (World.drew (wr.alloc (crow 0 0 0 0 0))) wr.heap.size _ _ _ _ (heap_alloc_new wr _))
          have LB : Hid (Below w.heap.size w Y) := by rw [← hY]; exact below_setRow (QB.out.alloc QB.out.size _).drew QB.out.size _
          obtain ⟨b8, hb8⟩ : ∃ b, wr.heap.size = b := ⟨_, rfl⟩
          rw [hb8] at L8 ⊢
          have n18 : b1 ≠ b8 := by have := lt_heap Q1.out; omega
          have n28 : b2 ≠ b8 := by have := lt_heap Q2.out; omega
          have n38 : b3 ≠ b8 := by have := lt_heap Q3.out; omega
          clear hY ew hb8 Q1 Q2 Q3 QB HSN
          obtain ⟨d0, d1, d2, d3, d4, l8⟩ := box5 L8.out
          go_wp2_with fail
          refine (kC _).out.mono ?_
          rintro e w3 ⟨rfl, hb3⟩
          have L1' := hide1 ((hb3.block _ (lt_heap L1.out)).trans L1.out)
          have L2' := hide1 ((hb3.block _ (lt_heap L2.out)).trans L2.out)
          have L3' := hide1 ((hb3.block _ (lt_heap L3.out)).trans L3.out)
          have L8' := hide1 ((hb3.block _ (lt_heap L8.out)).trans L8.out)
          have LB' := hide1 (LB.out.trans (hb3.mono LB.out.size))
          clear hb3 L1 L2 L3 L8 LB d0 d1 d2 d3 d4 l8
          have L2 := L2'
          have L3 := L3'
          have LB := LB'
          have HS2 : Shy ((At3 b1 (.string s) (.int .i64 (k5 : Int)) (.int .i64 0) w3 ∧ b1 < w3.heap.size) ∧ At5 b8 (.int .i64 (x0 : Int)) (.int .i64 (x1 : Int)) (.int .i64 (x2 : Int)) (.int .i64 (x3 : Int)) (.int .i64 (x4 : Int)) w3 ∧ b8 < w3.heap.size) := by
            obtain ⟨r0, r1, r2, _, _, _, r3⟩ := box3 (show w3.heap[b1]? = some (.cells #[.string s, .int .i64 (k5 : Int), .int .i64 0] 29 (0, 0)) from L1'.out)
            obtain ⟨d0, d1, d2, d3, d4, l8⟩ := box5 L8'.out
            exact ⟨⟨⟨r0, r1, r2⟩, r3⟩, ⟨d0, d1, d2, d3, d4⟩, l8⟩
          clear L1' L8' L2' L3' LB'
          go_upto_region 13 with (fail)
          refine region_f (F := [3]) (S := fun W => (At3 b1 (.string s) (.int .i64 (k5 : Int)) (.int .i64 0) W ∧ b1 < W.heap.size) ∧ At5 b8 (.int .i64 (x0 : Int)) (.int .i64 (x1 : Int)) (.int .i64 (x2 : Int)) (.int .i64 (x3 : Int)) (.int .i64 (x4 : Int)) W ∧ b8 < W.heap.size) (by kernel_rfl) HS2.out (fun hS => ?_)
          refine take_f 0 53 (.agg #[.string s, .int .i64 (k5 : Int), .int .i64 0]) [2, 3] rfl rfl (by kernel_rfl) (by kernel_rfl) (by kernel_rfl) (by kernel_rfl) (by kernel_rfl) (by kernel_rfl) (fun _ _ _ h => h) rfl (fun w hSw => by obtain ⟨⟨⟨r0, r1, r2⟩, rl⟩, ⟨g0, g1, g2, g3, g4⟩, gl⟩ := hSw; go_simp) hS ?_
          try simp only [List.setIfInBounds_toArray, List.set_cons_zero, List.set_cons_succ]
          refine take_f 1 54 (.agg #[.int .i64 (x0 : Int), .int .i64 (x1 : Int), .int .i64 (x2 : Int), .int .i64 (x3 : Int), .int .i64 (x4 : Int)]) [3] rfl rfl (by kernel_rfl) (by kernel_rfl) (by kernel_rfl) (by kernel_rfl) (by kernel_rfl) (by kernel_rfl) (fun _ _ _ h => h) rfl (fun w hSw => by obtain ⟨⟨⟨r0, r1, r2⟩, rl⟩, ⟨g0, g1, g2, g3, g4⟩, gl⟩ := hSw; go_simp) hS ?_
          try simp only [List.setIfInBounds_toArray, List.set_cons_zero, List.set_cons_succ]
          refine ready_f 2 (o := { dst := none, op := Op.store 29 (Operand.tmp 2) (Operand.tmp 53), type := 0, pos := "ref.go:137", after := #[{ on := 0, ground := Ground.data }, { on := 0, ground := Ground.phase }, { on := 1, ground := Ground.textOnly Departure.lateStores }], guard := none }) (by kernel_rfl) rfl (fun K hK => ?_)
          rw [if_pos (by rfl)]
          refine wp_store_row 29 _ _ rfl b2 _ rfl rfl 29 _ L2.out (by kernel_rfl) rfl (by kernel_rfl) ?_
          refine hK.out _ _ (fun _ h => ⟨⟨h.1.1.row (by omega) _, by have := h.1.2; simpa using this⟩, h.2.1.row (by omega) _, by have := h.2.2; simpa using this⟩) ?_
          clear hK K
          refine ready_f 3 (o := { dst := none, op := Op.store 26 (Operand.tmp 3) (Operand.tmp 54), type := 0, pos := "ref.go:137", after := #[{ on := 1, ground := Ground.data }, { on := 2, ground := Ground.chain }, { on := 0, ground := Ground.phase }, { on := 1, ground := Ground.phase }, { on := 2, ground := Ground.phase }], guard := none }) (by kernel_rfl) rfl (fun K hK => ?_)
          rw [if_pos (by rfl)]
          refine wp_store_row 26 _ _ rfl b3 _ rfl rfl 26 _ ((setRow_other _ b2 b3 _ (by omega)).trans L3.out) (by kernel_rfl) rfl (by kernel_rfl) ?_
          refine hK.out _ _ (fun h => absurd (by decide) h) ?_
          clear hK K
          refine done_f (by kernel_rfl) ?_ _
          go_wp2
          exact ret_dc Tryz.results7 b2 b3 _ _ _ _ _ _ _ _ rfl rfl ((setRow_other _ b3 b2 _ (by omega)).trans (setRow_heap _ b2 _ _ _ _ L2.out)) (setRow_heap _ b3 _ _ _ _ ((setRow_other _ b2 b3 _ (by omega)).trans L3.out)) rfl ⟨HR.out, below_setRow (below_setRow LB.out.drew (by have := HBS.out; omega) _) (by have := HBS.out; omega) _⟩
        · have hne := chk_not hm
          obtain ⟨cx, hcx⟩ : ∃ cx, chk (xN s 0 : Nat) (xN s 1 : Nat) (xN s 2 : Nat) (xN s 3 : Nat) (xN s 4 : Nat) = cx := ⟨_, rfl⟩
          have HCX : Shy (cx ≠ 0) := ⟨by rw [← hcx]; exact hne⟩
          have hcb : (cx != 0) = true := by simpa using HCX.out
          rw [hcx] at kC
          have kF := kF cx
          rw [fst_zero] at kF
          have hgc : gC s = cx := by rw [gC, if_pos hok]; exact hcx
          have HR : Shy (Ending.returned (.tuple #[.agg #[.string s, .int .i64 ((min 5 s.size : Nat) : Int), .int .i64 cx], .agg #[.int .i64 0, .int .i64 0, .int .i64 0, .int .i64 0, .int .i64 0]]) = Ending.returned (.tuple #[P, V])) := ⟨by rw [← HVV.out, ← HPP.out, gK, hgc, if_neg HCX.out]; rfl⟩
          clear hgc HVV HPP hm hne hcx
          generalize xN s 0 = x0 at *
          generalize xN s 1 = x1 at *
          generalize xN s 2 = x2 at *
          generalize xN s 3 = x3 at *
          generalize xN s 4 = x4 at *
          generalize min 5 s.size = k5 at *
          obtain ⟨c0, c1, c2, _, _, _, l0⟩ := box3 (show wr.heap[b1]? = some (.cells #[.string s, .int .i64 (k5 : Int), .int .i64 0] 29 (0, 0)) from Q1.out)
          go_upto_region 10 with (fail)
          clear c0 c1 c2 l0 a0 a1 a2 a3 a4
          refine region_f (F := [17]) (S := fun W => At5 gn (.int .i64 (x0 : Int)) (.int .i64 (x1 : Int)) (.int .i64 (x2 : Int)) (.int .i64 (x3 : Int)) (.int .i64 (x4 : Int)) W ∧ gn < W.heap.size) (by kernel_rfl) HSN.out (fun hS => ?_)
          refine take_p 0 29 (.slice (some ⟨gn, 0, none⟩) 5 cap) rfl rfl (by kernel_rfl) (by kernel_rfl) (by kernel_rfl) (fun _ _ _ h => h) rfl (fun w => by go_simp) ?_
          try simp only [List.setIfInBounds_toArray, List.set_cons_zero, List.set_cons_succ]
          refine take_p 1 30 (.pointer (some ⟨gn, 0, none⟩)) rfl rfl (by kernel_rfl) (by kernel_rfl) (by kernel_rfl) (fun _ _ _ h => h) rfl (fun w => by go_simp) ?_
          try simp only [List.setIfInBounds_toArray, List.set_cons_zero, List.set_cons_succ]
          refine take_f 2 31 (.int .i64 (x0 : Int)) [15, 17] rfl rfl (by kernel_rfl) (by kernel_rfl) (by kernel_rfl) (by kernel_rfl) (by kernel_rfl) (by kernel_rfl) (fun _ _ _ h => h) rfl (fun w hSw => by obtain ⟨⟨g0, g1, g2, g3, g4⟩, gl⟩ := hSw; go_simp) hS ?_
          try simp only [List.setIfInBounds_toArray, List.set_cons_zero, List.set_cons_succ]
          refine take_p 3 32 (.slice (some ⟨gn, 0, none⟩) 5 cap) rfl rfl (by kernel_rfl) (by kernel_rfl) (by kernel_rfl) (fun _ _ _ h => h) rfl (fun w => by go_simp) ?_
          try simp only [List.setIfInBounds_toArray, List.set_cons_zero, List.set_cons_succ]
          refine take_p 4 33 (.pointer (some ⟨gn, 1, none⟩)) rfl rfl (by kernel_rfl) (by kernel_rfl) (by kernel_rfl) (fun _ _ _ h => h) rfl (fun w => by go_simp) ?_
          try simp only [List.setIfInBounds_toArray, List.set_cons_zero, List.set_cons_succ]
          refine take_f 5 34 (.int .i64 (x1 : Int)) [15, 17] rfl rfl (by kernel_rfl) (by kernel_rfl) (by kernel_rfl) (by kernel_rfl) (by kernel_rfl) (by kernel_rfl) (fun _ _ _ h => h) rfl (fun w hSw => by obtain ⟨⟨g0, g1, g2, g3, g4⟩, gl⟩ := hSw; go_simp) hS ?_
          try simp only [List.setIfInBounds_toArray, List.set_cons_zero, List.set_cons_succ]
          refine take_p 6 35 (.slice (some ⟨gn, 0, none⟩) 5 cap) rfl rfl (by kernel_rfl) (by kernel_rfl) (by kernel_rfl) (fun _ _ _ h => h) rfl (fun w => by go_simp) ?_
          try simp only [List.setIfInBounds_toArray, List.set_cons_zero, List.set_cons_succ]
          refine take_p 7 36 (.pointer (some ⟨gn, 2, none⟩)) rfl rfl (by kernel_rfl) (by kernel_rfl) (by kernel_rfl) (fun _ _ _ h => h) rfl (fun w => by go_simp) ?_
          try simp only [List.setIfInBounds_toArray, List.set_cons_zero, List.set_cons_succ]
          refine take_f 8 37 (.int .i64 (x2 : Int)) [15, 17] rfl rfl (by kernel_rfl) (by kernel_rfl) (by kernel_rfl) (by kernel_rfl) (by kernel_rfl) (by kernel_rfl) (fun _ _ _ h => h) rfl (fun w hSw => by obtain ⟨⟨g0, g1, g2, g3, g4⟩, gl⟩ := hSw; go_simp) hS ?_
          try simp only [List.setIfInBounds_toArray, List.set_cons_zero, List.set_cons_succ]
          refine take_p 9 38 (.slice (some ⟨gn, 0, none⟩) 5 cap) rfl rfl (by kernel_rfl) (by kernel_rfl) (by kernel_rfl) (fun _ _ _ h => h) rfl (fun w => by go_simp) ?_
          try simp only [List.setIfInBounds_toArray, List.set_cons_zero, List.set_cons_succ]
          refine take_p 10 39 (.pointer (some ⟨gn, 3, none⟩)) rfl rfl (by kernel_rfl) (by kernel_rfl) (by kernel_rfl) (fun _ _ _ h => h) rfl (fun w => by go_simp) ?_
          try simp only [List.setIfInBounds_toArray, List.set_cons_zero, List.set_cons_succ]
          refine take_f 11 40 (.int .i64 (x3 : Int)) [15, 17] rfl rfl (by kernel_rfl) (by kernel_rfl) (by kernel_rfl) (by kernel_rfl) (by kernel_rfl) (by kernel_rfl) (fun _ _ _ h => h) rfl (fun w hSw => by obtain ⟨⟨g0, g1, g2, g3, g4⟩, gl⟩ := hSw; go_simp) hS ?_
          try simp only [List.setIfInBounds_toArray, List.set_cons_zero, List.set_cons_succ]
          refine take_p 12 41 (.slice (some ⟨gn, 0, none⟩) 5 cap) rfl rfl (by kernel_rfl) (by kernel_rfl) (by kernel_rfl) (fun _ _ _ h => h) rfl (fun w => by go_simp) ?_
          try simp only [List.setIfInBounds_toArray, List.set_cons_zero, List.set_cons_succ]
          refine take_p 13 42 (.pointer (some ⟨gn, 4, none⟩)) rfl rfl (by kernel_rfl) (by kernel_rfl) (by kernel_rfl) (fun _ _ _ h => h) rfl (fun w => by go_simp) ?_
          try simp only [List.setIfInBounds_toArray, List.set_cons_zero, List.set_cons_succ]
          refine take_f 14 43 (.int .i64 (x4 : Int)) [15, 17] rfl rfl (by kernel_rfl) (by kernel_rfl) (by kernel_rfl) (by kernel_rfl) (by kernel_rfl) (by kernel_rfl) (fun _ _ _ h => h) rfl (fun w hSw => by obtain ⟨⟨g0, g1, g2, g3, g4⟩, gl⟩ := hSw; go_simp) hS ?_
          try simp only [List.setIfInBounds_toArray, List.set_cons_zero, List.set_cons_succ]
          refine take_p 15 44 (.agg #[.int .i64 (x0 : Int), .int .i64 (x1 : Int), .int .i64 (x2 : Int), .int .i64 (x3 : Int), .int .i64 (x4 : Int)]) rfl rfl (by kernel_rfl) (by kernel_rfl) (by kernel_rfl) (fun _ _ _ h => h) rfl (fun w => by go_simp) ?_
          try simp only [List.setIfInBounds_toArray, List.set_cons_zero, List.set_cons_succ]
          refine ready_f 16 (o := { dst := some 8, op := Op.alloc 26, type := 0, pos := "ref.go:133", after := #[], guard := none }) (by kernel_rfl) rfl (fun K hK => ?_)
          go_simp
          refine hK.out _ _ (fun _ h => ⟨h.1.below (below1 _) h.2, by have := h.2; simp; omega⟩) ?_
          clear hK K
          try simp only [Act.put, List.setIfInBounds_toArray, List.set_cons_zero, List.set_cons_succ]
          refine ready_f 17 (o := { dst := none, op := Op.store 26 (Operand.tmp 8) (Operand.tmp 44), type := 0, pos := "ref.go:133", after := #[{ on := 16, ground := Ground.data }, { on := 15, ground := Ground.data }, { on := 0, ground := Ground.phase }, { on := 1, ground := Ground.phase }, { on := 2, ground := Ground.phase }, { on := 3, ground := Ground.phase }, { on := 4, ground := Ground.phase }, { on := 5, ground := Ground.phase }, { on := 6, ground := Ground.phase }, { on := 7, ground := Ground.phase }, { on := 8, ground := Ground.phase }, { on := 9, ground := Ground.phase }, { on := 10, ground := Ground.phase }, { on := 11, ground := Ground.phase }, { on := 12, ground := Ground.phase }, { on := 13, ground := Ground.phase }, { on := 14, ground := Ground.phase }, { on := 15, ground := Ground.phase }, { on := 16, ground := Ground.phase }], guard := none }) (by kernel_rfl) rfl (fun K hK => ?_)
          rw [if_pos (by rfl)]
          refine wp_store_row 26 _ _ rfl wr.heap.size _ rfl rfl 26 _ (heap_alloc_new wr _) (by kernel_rfl) rfl (by kernel_rfl) ?_
          refine hK.out _ _ (fun h => absurd (by decide) h) ?_
          clear hK K
          refine done_f (by kernel_rfl) ?_ _
          generalize hY : World.setRow _ wr.heap.size _ = Y
          have ew : ∀ b, b ≠ wr.heap.size → b < wr.heap.size → Y.heap[b]? = wr.heap[b]? := fun b hb hl => by rw [← hY]; exact (setRow_other _ _ b _ hb).trans (Below.heap_alloc wr _ b hl)
          have L1 := hide1 ((ew b1 (by have := lt_heap Q1.out; omega) (lt_heap Q1.out)).trans Q1.out)
          have L2 := hide1 ((ew b2 (by have := lt_heap Q2.out; omega) (lt_heap Q2.out)).trans Q2.out)
          have L3 := hide1 ((ew b3 (by have := lt_heap Q3.out; omega) (lt_heap Q3.out)).trans Q3.out)
          have L8 := hide1 (hY ▸ setRow_heap (World.drew (wr.alloc (crow 0 0 0 0 0))) wr.heap.size _ _ _ _ (heap_alloc_new wr _))
          have LB : Hid (Below w.heap.size w Y) := by rw [← hY]; exact below_setRow (QB.out.alloc QB.out.size _).drew QB.out.size _
          obtain ⟨b8, hb8⟩ : ∃ b, wr.heap.size = b := ⟨_, rfl⟩
          rw [hb8] at L8 ⊢
          have n18 : b1 ≠ b8 := by have := lt_heap Q1.out; omega
          have n28 : b2 ≠ b8 := by have := lt_heap Q2.out; omega
          have n38 : b3 ≠ b8 := by have := lt_heap Q3.out; omega
          clear hY ew hb8 Q1 Q2 Q3 QB HSN
          obtain ⟨d0, d1, d2, d3, d4, l8⟩ := box5 L8.out
          go_wp2_with fail
          refine (kC _).out.mono ?_
          rintro e w3 ⟨rfl, hb3⟩
          have L1' := hide1 ((hb3.block _ (lt_heap L1.out)).trans L1.out)
          have L2' := hide1 ((hb3.block _ (lt_heap L2.out)).trans L2.out)
          have L3' := hide1 ((hb3.block _ (lt_heap L3.out)).trans L3.out)
          have L8' := hide1 ((hb3.block _ (lt_heap L8.out)).trans L8.out)
          have LB' := hide1 (LB.out.trans (hb3.mono LB.out.size))
          clear hb3 L1 L2 L3 L8 LB d0 d1 d2 d3 d4 l8
          have L2 := L2'
          have L3 := L3'
          have LB := LB'
          have HS2 : Shy ((At3 b1 (.string s) (.int .i64 (k5 : Int)) (.int .i64 0) w3 ∧ b1 < w3.heap.size) ∧ At5 b8 (.int .i64 (x0 : Int)) (.int .i64 (x1 : Int)) (.int .i64 (x2 : Int)) (.int .i64 (x3 : Int)) (.int .i64 (x4 : Int)) w3 ∧ b8 < w3.heap.size) := by
            obtain ⟨r0, r1, r2, _, _, _, r3⟩ := box3 (show w3.heap[b1]? = some (.cells #[.string s, .int .i64 (k5 : Int), .int .i64 0] 29 (0, 0)) from L1'.out)
            obtain ⟨d0, d1, d2, d3, d4, l8⟩ := box5 L8'.out
            exact ⟨⟨⟨r0, r1, r2⟩, r3⟩, ⟨d0, d1, d2, d3, d4⟩, l8⟩
          clear L1' L8' L2' L3' LB'
          go_upto_region 12 with (fail)
          refine region_f (F := [5, 6]) (S := fun W => (At3 b1 (.string s) (.int .i64 (k5 : Int)) (.int .i64 0) W ∧ b1 < W.heap.size) ∧ At5 b8 (.int .i64 (x0 : Int)) (.int .i64 (x1 : Int)) (.int .i64 (x2 : Int)) (.int .i64 (x3 : Int)) (.int .i64 (x4 : Int)) W ∧ b8 < W.heap.size) (by kernel_rfl) HS2.out (fun hS => ?_)
          refine take_f 0 48 (.agg #[.string s, .int .i64 (k5 : Int), .int .i64 0]) [3, 5, 6] rfl rfl (by kernel_rfl) (by kernel_rfl) (by kernel_rfl) (by kernel_rfl) (by kernel_rfl) (by kernel_rfl) (fun _ _ _ h => h) rfl (fun w hSw => by obtain ⟨⟨⟨r0, r1, r2⟩, rl⟩, ⟨g0, g1, g2, g3, g4⟩, gl⟩ := hSw; go_simp) hS ?_
          try simp only [List.setIfInBounds_toArray, List.set_cons_zero, List.set_cons_succ]
          refine take_f 1 49 (.agg #[.int .i64 (x0 : Int), .int .i64 (x1 : Int), .int .i64 (x2 : Int), .int .i64 (x3 : Int), .int .i64 (x4 : Int)]) [2, 3, 5, 6] rfl rfl (by kernel_rfl) (by kernel_rfl) (by kernel_rfl) (by kernel_rfl) (by kernel_rfl) (by kernel_rfl) (fun _ _ _ h => h) rfl (fun w hSw => by obtain ⟨⟨⟨r0, r1, r2⟩, rl⟩, ⟨g0, g1, g2, g3, g4⟩, gl⟩ := hSw; go_simp) hS ?_
          try simp only [List.setIfInBounds_toArray, List.set_cons_zero, List.set_cons_succ]
          refine take_p 4 52 (.agg #[.int .i64 0, .int .i64 0, .int .i64 0, .int .i64 0, .int .i64 0]) rfl rfl (by kernel_rfl) (by kernel_rfl) (by kernel_rfl) (fun _ _ _ h => h) rfl (fun w => by go_simp) ?_
          try simp only [List.setIfInBounds_toArray, List.set_cons_zero, List.set_cons_succ]
          refine ready_f 2 (o := { dst := some 50, op := Op.call { callee := Callee.value (Operand.func 21), args := #[Operand.tmp 49], argTypes := #[26] }, type := 3, pos := "ref.go:135", after := #[{ on := 1, ground := Ground.data }], guard := none }) (by kernel_rfl) rfl (fun K hK => ?_)
          go_simp
          refine (kC _).out.mono ?_
          rintro e w4 ⟨rfl, hb4⟩
          refine hK.out _ _ (fun _ h => ⟨⟨h.1.1.below hb4 h.1.2, Nat.lt_of_lt_of_le h.1.2 hb4.size⟩, h.2.1.below hb4 h.2.2, Nat.lt_of_lt_of_le h.2.2 hb4.size⟩) ?_
          clear hK K
          try simp only [Act.put, List.setIfInBounds_toArray, List.set_cons_zero, List.set_cons_succ]
          have M2 := hide1 ((hb4.block _ (lt_heap L2.out)).trans L2.out)
          have M3 := hide1 ((hb4.block _ (lt_heap L3.out)).trans L3.out)
          have MB := hide1 (LB.out.drew.trans (hb4.mono LB.out.size))
          clear hb4
          refine ready_f 3 (o := { dst := some 51, op := Op.call { callee := Callee.value (Operand.func 22), args := #[Operand.tmp 48, Operand.tmp 50], argTypes := #[29, 3] }, type := 29, pos := "ref.go:135", after := #[{ on := 0, ground := Ground.data }, { on := 2, ground := Ground.data }, { on := 2, ground := Ground.chain }], guard := none }) (by kernel_rfl) rfl (fun K hK => ?_)
          go_simp
          refine (kF _).out.mono ?_
          rintro e w5 ⟨rfl, hb5⟩
          refine hK.out _ _ (fun _ h => ⟨⟨h.1.1.below hb5 h.1.2, Nat.lt_of_lt_of_le h.1.2 hb5.size⟩, h.2.1.below hb5 h.2.2, Nat.lt_of_lt_of_le h.2.2 hb5.size⟩) ?_
          clear hK K
          try simp only [Act.put, List.setIfInBounds_toArray, List.set_cons_zero, List.set_cons_succ]
          have N2 := hide1 ((hb5.block _ (lt_heap M2.out)).trans M2.out)
          have N3 := hide1 ((hb5.block _ (lt_heap M3.out)).trans M3.out)
          have NB := hide1 (MB.out.trans (hb5.mono MB.out.size))
          clear hb5
          refine ready_f 5 (o := { dst := none, op := Op.store 29 (Operand.tmp 2) (Operand.tmp 51), type := 0, pos := "ref.go:135", after := #[{ on := 3, ground := Ground.data }, { on := 3, ground := Ground.chain }, { on := 0, ground := Ground.phase }, { on := 1, ground := Ground.phase }, { on := 2, ground := Ground.phase }, { on := 3, ground := Ground.phase }, { on := 4, ground := Ground.textOnly Departure.lateStores }], guard := none }) (by kernel_rfl) rfl (fun K hK => ?_)
          rw [if_pos (by rfl)]
          refine wp_store_row 29 _ _ rfl b2 _ rfl rfl 29 _ N2.out (by kernel_rfl) rfl (by kernel_rfl) ?_
          refine hK.out _ _ (fun h => absurd (by decide) h) ?_
          clear hK K
          refine ready_f 6 (o := { dst := none, op := Op.store 26 (Operand.tmp 3) (Operand.tmp 52), type := 0, pos := "ref.go:135", after := #[{ on := 4, ground := Ground.data }, { on := 5, ground := Ground.chain }, { on := 0, ground := Ground.phase }, { on := 1, ground := Ground.phase }, { on := 2, ground := Ground.phase }, { on := 3, ground := Ground.phase }, { on := 4, ground := Ground.phase }, { on := 5, ground := Ground.phase }], guard := none }) (by kernel_rfl) rfl (fun K hK => ?_)
          rw [if_pos (by rfl)]
          refine wp_store_row 26 _ _ rfl b3 _ rfl rfl 26 _ ((setRow_other _ b2 b3 _ (by omega)).trans N3.out) (by kernel_rfl) rfl (by kernel_rfl) ?_
          refine hK.out _ _ (fun h => absurd (by decide) h) ?_
          clear hK K
          refine done_f (by kernel_rfl) ?_ _
          go_wp2
          exact ret_dc Tryz.results7 b2 b3 _ _ _ _ _ _ _ _ rfl rfl ((setRow_other _ b3 b2 _ (by omega)).trans (setRow_heap _ b2 _ _ _ _ N2.out)) (setRow_heap _ b3 _ _ _ _ ((setRow_other _ b2 b3 _ (by omega)).trans N3.out)) rfl ⟨HR.out, below_setRow (below_setRow NB.out (by have := HBS.out; omega) _) (by have := HBS.out; omega) _⟩
      · rw [cN_no hok] at Q1
        have hgc : gC s = 12 := by rw [gC, if_neg hok]
        have HR : Shy (Ending.returned (.tuple #[.agg #[.string s, .int .i64 ((min 5 s.size : Nat) : Int), .int .i64 12], .agg #[.int .i64 0, .int .i64 0, .int .i64 0, .int .i64 0, .int .i64 0]]) = Ending.returned (.tuple #[P, V])) := ⟨by rw [← HVV.out, ← HPP.out, gK, hgc, if_neg (by decide)]; rfl⟩
        have hq1 := Q1.out
        have hq2 := Q2.out
        unfold drow at hq1 hq2
        obtain ⟨c0, c1, c2, _, _, _, l0⟩ := box3 hq1
        obtain ⟨e0, e1, e2, f0, f1, f2, l2⟩ := box3 hq2
        obtain ⟨d0, d1, d2, d3, d4, l3⟩ := box5 (show wr.heap[b3]? = some (.cells #[.int .i64 0, .int .i64 0, .int .i64 0, .int .i64 0, .int .i64 0] 26 (0, 0)) from Q3.out)
        obtain ⟨p0, p1, p2, p3, p4⟩ := free5 (show wr.heap[b3]? = some (.cells #[.int .i64 0, .int .i64 0, .int .i64 0, .int .i64 0, .int .i64 0] 26 (0, 0)) from Q3.out)
        clear hq1 hq2 a0 a1 a2 a3 a4 kC kF hgc HVV HPP
        go_wp2
        exact ret_dc Tryz.results7 b2 b3 _ _ _ _ _ _ _ _ rfl rfl (heap_box5_other (set_box3 Q2.out) (by omega)) (set_box5 (keep_box3 Q3.out (by omega))) rfl ⟨HR.out, below_box5 (below_box3 QB.out (by have := HBS.out; omega)) (by have := HBS.out; omega)⟩

end Go.Proofs.YtnkdbkhgfakjaaaGreatDoor
