/- The law WireNames, walked. -/
import Derived.Test.YtmmhfipdolbinaaDoorSd
import Derived.Test.YtmmhfipdolbinaaDoorRv
import Derived.Test.YtmmhfipdolbinaaDoorWj
import Derived.Test.YtmmhfipdolbinaaDoorFy
namespace Go.Proofs.YtmmhfipdolbinaaDoor
open Go.RowKit
set_option maxRecDepth 100000
attribute [local go_sem] not_any mf_any

theorem ise_flt {w : World} {c : Int} {f : ByteArray} {p : Nat} (hc : (c == 0) = false) (h : w.heap[p]? = some (flt c f)) : F.IsE w c (.iface 84 (.pointer (some ⟨p, 0, none⟩))) := .inr ⟨hc, p, rfl, f, h⟩
theorem own_str {w : World} {base : Nat} {v : Value} {s : ByteArray} (h : w.ownsRow base 9 1 v 1 (F.strs [s])) : ∃ g c, v = .slice (some ⟨g, 0, none⟩) 1 c ∧ w.cell? ⟨g, 0, none⟩ = some (.string s) := by
  obtain ⟨h1, ⟨_, h0⟩ | ⟨g, cap, cur, rfl, hb, hg, hn, hm, hz, hx⟩⟩ := id h
  · cases h0
  · refine ⟨g, cap, rfl, ?_⟩
    have := h.cells (g := g) rfl 0 (.string s) (by simp [F.strs])
    rwa [Addr.add_lit, Nat.zero_add] at this
theorem et_next {W w : World} (h : F.Et W) (hb : Below W.heap.size W w) : F.Et w := h.below hb h.pos

theorem run_cut8 (s : ByteArray) (w : World) (h2 : 8 ≤ s.size) : (Instr.slice 9 (.string s) none (some (.int .i64 8)) none).run Tryd.prog w = .ok (.string (s.extract 0 8)) w := by
  have h1 := Tryd.underlying9
  have h3 : ¬ ((s.size : Int) < 8) := by omega
  go_simp

set_option maxHeartbeats 4000000 in
theorem names_all (W : World) (s field other : ByteArray) (he : F.Et W) (hs : s.size ≤ 281474976710656) (hf : field.size ≤ 281474976710656) :
    Calls Tryd.prog 3 #[.string s, .string field, .string other] W fun e w' => e = .returned (.bool true) ∧ Below W.heap.size W w' := by
  have kA := fun w => hide1 (awake_any w)
  have kN := hide1 (newReader_any s W)
  by_cases hbig : 200 < field.size ∨ 3000 < s.size
  · go_enter Tryd.func3, Tryd.ntmps3
    go_wp2_with fail
    refine kN.out.mono ?_
    rintro e w1 ⟨rfl, rfl⟩
    by_cases hf2 : 200 < field.size
    · have hf3 : (200 : Int) < (field.size : Int) := by omega
      go_wp2_with (go_at_call 5; refine (kA _).out.mono ?_; rintro e w2 ⟨rfl, hb2⟩)
      go_ret
      exact ⟨rfl, ((Below.refl _ _).alloc (Nat.le_refl _) _).trans (hb2.mono (by simp))⟩
    · have hf3 : decide ((200 : Int) < (field.size : Int)) = false := by rw [decide_eq_false_iff_not]; omega
      have hs3 : (3000 : Int) < (s.size : Int) := by omega
      go_wp2_with (go_at_call 5; refine (kA _).out.mono ?_; rintro e w2 ⟨rfl, hb2⟩)
      go_ret
      exact ⟨rfl, ((Below.refl _ _).alloc (Nat.le_refl _) _).trans (hb2.mono (by simp))⟩
  have hf3 : decide ((200 : Int) < (field.size : Int)) = false := by rw [decide_eq_false_iff_not]; omega
  have hs3 : decide ((3000 : Int) < (s.size : Int)) = false := by rw [decide_eq_false_iff_not]; omega
  obtain ⟨g, hg⟩ : ∃ g, W.heap.size = g := ⟨_, rfl⟩
  have hr0 : (W.alloc (rdr s 0 0 ⟨#[]⟩)).heap[g]? = some (rdr s 0 0 ⟨#[]⟩) := by rw [← hg]; exact heap_alloc_new _ _
  have hb0 : Below W.heap.size W (W.alloc (rdr s 0 0 ⟨#[]⟩)) := (Below.refl _ _).alloc (Nat.le_refl _) _
  have HG := hide1 hg
  have HET := hide1 he
  rw [hg] at kN
  generalize W.alloc (rdr s 0 0 ⟨#[]⟩) = w1 at *
  have k1 := hide1 (rU64_any g 0 s ⟨#[]⟩ field w1 hr0 (Nat.zero_le _) hs)
  have hR0 : restOf s 0 = nums s := rfl
  rw [hR0] at k1
  have HB0 := hide1 hb0
  clear hr0 hb0 hbig he hR0
  by_cases h8 : s.size < 8
  · have e1 : numC 8 (nums s) = 12 := by rw [numC, if_neg (by rw [nums_length]; omega)]
    have e2 : numX 8 (nums s) = 0 := by rw [numX, if_neg (by rw [nums_length]; omega)]
    rw [e1, e2] at k1
    have h8' : decide ((8 : Int) ≤ (s.size : Int)) = false := by rw [decide_eq_false_iff_not]; omega
    have h16' : decide ((16 : Int) ≤ (s.size : Int)) = false := by rw [decide_eq_false_iff_not]; omega
    clear e1 e2 h8
    go_enter Tryd.func3, Tryd.ntmps3
    go_wp2_with fail
    refine kN.out.mono ?_
    rintro e w1' ⟨rfl, hw1⟩
    cases hw1
    clear kN
    go_wp2_with fail
    refine k1.out.mono ?_
    rintro e w2 ⟨rfl, hr2, hb2⟩
    rw [rdN_no _ _ _ _ _ (by decide)] at hr2
    have k2 := hide1 (rU64_over g 0 s field other 12 w2 hr2 (by decide))
    have HB2 := hide1 (hb2.below HB0.out (by rw [HG.out]; exact Nat.le_refl _) HB0.out.size)
    clear k1 hr2 hb2
    go_wp2_with fail
    refine k2.out.mono ?_
    rintro e w3 ⟨rfl, hr3, hb3⟩
    have HR3 := hide1 hr3
    have HB3 := hide1 (hb3.below HB2.out (by rw [HG.out]; exact Nat.le_refl _) HB2.out.size)
    clear k2 hr3 hb3
    have kE1 := hide1 (err_some g 0 s field 12 w3 HR3.out (by decide))
    have HL3 := hide1 (lt_heap HR3.out)
    go_wp2_with fail
    refine kE1.out.mono ?_
    rintro e w4 ⟨rfl, q4, rfl⟩
    obtain ⟨X4, hX4⟩ : ∃ X4, (w3.alloc (flt 12 field)).drewN q4 = X4 := ⟨_, rfl⟩
    have hp4 : X4.heap[w3.heap.size]? = some (flt 12 field) := by rw [← hX4]; exact heap_alloc_new _ _
    have hr4 : X4.heap[g]? = some (rdr s 0 12 field) := by rw [← hX4]; exact (Below.heap_alloc _ _ _ HL3.out).trans HR3.out
    have HB4 : Hid (Below W.heap.size W X4) := by rw [← hX4]; exact drewN_below (HB3.out.alloc HB3.out.size _) q4
    rw [hX4]
    clear hX4 kE1
    have kP := hide1 (F.path_root w3.heap.size 12 field X4 hp4 rfl)
    unfold F.ev at kP
    have HR4 := hide1 hr4
    clear hp4 hr4
    go_wp2_with fail
    refine kP.out.mono ?_
    rintro e w5 ⟨v, rfl, hrow5, hb5⟩
    obtain ⟨gp, cp, rfl, hcell5⟩ := own_str hrow5
    have hr5 := (hb5.block g (lt_heap HR4.out)).trans HR4.out
    have HB5 := hide1 (HB4.out.trans (hb5.mono HB4.out.size))
    have HC5 := hide1 hcell5
    have HR5 := hide1 hr5
    have kE2 := hide1 (err_some g 0 s field 12 w5 hr5 (by decide))
    clear kP hrow5 hb5 hcell5 hr5
    go_wp2_with fail
    refine kE2.out.mono ?_
    rintro e w6 ⟨rfl, q6, rfl⟩
    obtain ⟨X6, hX6⟩ : ∃ X6, (w5.alloc (flt 12 field)).drewN q6 = X6 := ⟨_, rfl⟩
    have hp6 : X6.heap[w5.heap.size]? = some (flt 12 field) := by rw [← hX6]; exact heap_alloc_new _ _
    have hb6 : Below w5.heap.size w5 X6 := by rw [← hX6]; exact drewN_below ((Below.refl _ _).alloc (Nat.le_refl _) _) q6
    have HB6 := hide1 (HB5.out.trans (hb6.mono HB5.out.size))
    have HR6 := hide1 ((hb6.block g (lt_heap HR5.out)).trans HR5.out)
    have HC6 := hide1 ((hb6.cell (p := ⟨gp, 0, none⟩) (lt_cell HC5.out)).trans HC5.out)
    rw [hX6]
    have kC := hide1 (F.code_any X6 12 _ (et_next HET.out HB6.out) (ise_flt rfl hp6))
    clear hX6 kE2 hp6 hb6
    go_wp2_with fail
    refine kC.out.mono ?_
    rintro e w7 ⟨rfl, hb7⟩
    have HB7 := hide1 (HB6.out.trans (hb7.mono HB6.out.size))
    have hr7 := (hb7.block g (lt_heap HR6.out)).trans HR6.out
    have hc7 := (hb7.cell (p := ⟨gp, 0, none⟩) (lt_cell HC6.out)).trans HC6.out
    have kB := hide1 (rBlob_over g 0 s field field 9 12 w7 hr7 (by decide))
    clear kC hb7 hr7
    go_wp2_with fail
    refine kB.out.mono ?_
    rintro e w8 ⟨rfl, hr8, hb8⟩
    have HB8 := hide1 (hb8.below HB7.out (by rw [HG.out]; exact Nat.le_refl _) HB7.out.size)
    have kD := hide1 (end_over g 0 s field 12 w8 hr8 (by decide))
    clear kB hr8 hb8 hc7
    go_wp2_with fail
    refine kD.out.mono ?_
    rintro e w9 ⟨p9, rfl, hp9, _, hb9⟩
    have HB9 := hide1 (hb9.below HB8.out (by rw [HG.out]; exact Nat.le_refl _) HB8.out.size)
    have kC2 := hide1 (F.code_any w9 12 _ (et_next HET.out HB9.out) (ise_flt rfl hp9))
    clear kD hp9 hb9
    go_wp2_with fail
    refine kC2.out.mono ?_
    rintro e w10 ⟨rfl, hb10⟩
    have HB10 := hide1 (HB9.out.trans (hb10.mono HB9.out.size))
    clear kC2 hb10
    go_wp2_with (go_at_call 5; refine (kA _).out.mono ?_; rintro e w11 ⟨rfl, hb11⟩)
    go_ret
    exact ⟨rfl, HB10.out.trans (hb11.mono HB10.out.size)⟩
  · have e1 : numC 8 (nums s) = 0 := by rw [numC, if_pos (by rw [nums_length]; omega)]
    obtain ⟨x, hx⟩ : ∃ x, numX 8 (nums s) = x := ⟨_, rfl⟩
    have HX : Shy (x = val (nums (s.extract 0 8))) := ⟨by rw [← hx, numX, if_pos (by rw [nums_length]; omega), nums_extract]; rfl⟩
    rw [e1, hx] at k1
    have h8' : (8 : Int) ≤ (s.size : Int) := by omega
    clear e1 hx
    go_enter Tryd.func3, Tryd.ntmps3
    go_wp2_with fail
    refine kN.out.mono ?_
    rintro e w1' ⟨rfl, hw1⟩
    cases hw1
    clear kN
    go_wp2_with fail
    refine k1.out.mono ?_
    rintro e w2 ⟨rfl, hr2, hb2⟩
    rw [rdN_ok] at hr2
    have k2 := hide1 (rU64_any g (0 + 8) s ⟨#[]⟩ other w2 hr2 (by omega) hs)
    have HB2 := hide1 (hb2.below HB0.out (by rw [HG.out]; exact Nat.le_refl _) HB0.out.size)
    clear k1 hr2 hb2
    by_cases h16 : s.size < 16
    · have e1 : numC 8 (restOf s (0 + 8)) = 12 := by rw [numC, if_neg (by rw [restOf, List.length_drop, nums_length]; omega)]
      rw [e1] at k2
      have h16' : decide ((16 : Int) ≤ (s.size : Int)) = false := by rw [decide_eq_false_iff_not]; omega
      clear e1
      go_wp2_with fail
      refine k2.out.mono ?_
      rintro e w3 ⟨rfl, hr3, hb3⟩
      rw [rdN_no _ _ _ _ _ (by decide)] at hr3
      have HR3 := hide1 hr3
      have HB3 := hide1 (hb3.below HB2.out (by rw [HG.out]; exact Nat.le_refl _) HB2.out.size)
      clear k2 hr3 hb3
      have kE1 := hide1 (err_some g (0 + 8) s other 12 w3 HR3.out (by decide))
      have HL3 := hide1 (lt_heap HR3.out)
      go_wp2_with fail
      refine kE1.out.mono ?_
      rintro e w4 ⟨rfl, q4, rfl⟩
      obtain ⟨X4, hX4⟩ : ∃ X4, (w3.alloc (flt 12 other)).drewN q4 = X4 := ⟨_, rfl⟩
      have hp4 : X4.heap[w3.heap.size]? = some (flt 12 other) := by rw [← hX4]; exact heap_alloc_new _ _
      have hr4 : X4.heap[g]? = some (rdr s (0 + 8) 12 other) := by rw [← hX4]; exact (Below.heap_alloc _ _ _ HL3.out).trans HR3.out
      have HB4 : Hid (Below W.heap.size W X4) := by rw [← hX4]; exact drewN_below (HB3.out.alloc HB3.out.size _) q4
      rw [hX4]
      clear hX4 kE1
      have kP := hide1 (F.path_root w3.heap.size 12 other X4 hp4 rfl)
      unfold F.ev at kP
      have HR4 := hide1 hr4
      clear hp4 hr4
      go_wp2_with fail
      refine kP.out.mono ?_
      rintro e w5 ⟨v, rfl, hrow5, hb5⟩
      obtain ⟨gp, cp, rfl, hcell5⟩ := own_str hrow5
      have hr5 := (hb5.block g (lt_heap HR4.out)).trans HR4.out
      have HB5 := hide1 (HB4.out.trans (hb5.mono HB4.out.size))
      have HC5 := hide1 hcell5
      have HR5 := hide1 hr5
      have kE2 := hide1 (err_some g (0 + 8) s other 12 w5 hr5 (by decide))
      clear kP hrow5 hb5 hcell5 hr5
      go_wp2_with fail
      refine kE2.out.mono ?_
      rintro e w6 ⟨rfl, q6, rfl⟩
      obtain ⟨X6, hX6⟩ : ∃ X6, (w5.alloc (flt 12 other)).drewN q6 = X6 := ⟨_, rfl⟩
      have hp6 : X6.heap[w5.heap.size]? = some (flt 12 other) := by rw [← hX6]; exact heap_alloc_new _ _
      have hb6 : Below w5.heap.size w5 X6 := by rw [← hX6]; exact drewN_below ((Below.refl _ _).alloc (Nat.le_refl _) _) q6
      have HB6 := hide1 (HB5.out.trans (hb6.mono HB5.out.size))
      have HR6 := hide1 ((hb6.block g (lt_heap HR5.out)).trans HR5.out)
      have HC6 := hide1 ((hb6.cell (p := ⟨gp, 0, none⟩) (lt_cell HC5.out)).trans HC5.out)
      rw [hX6]
      have kC := hide1 (F.code_any X6 12 _ (et_next HET.out HB6.out) (ise_flt rfl hp6))
      clear hX6 kE2 hp6 hb6
      go_wp2_with fail
      refine kC.out.mono ?_
      rintro e w7 ⟨rfl, hb7⟩
      have HB7 := hide1 (HB6.out.trans (hb7.mono HB6.out.size))
      have hr7 := (hb7.block g (lt_heap HR6.out)).trans HR6.out
      have hc7 := (hb7.cell (p := ⟨gp, 0, none⟩) (lt_cell HC6.out)).trans HC6.out
      have kB := hide1 (rBlob_over g (0 + 8) s other field 9 12 w7 hr7 (by decide))
      clear kC hb7 hr7
      go_wp2_with fail
      refine kB.out.mono ?_
      rintro e w8 ⟨rfl, hr8, hb8⟩
      have HB8 := hide1 (hb8.below HB7.out (by rw [HG.out]; exact Nat.le_refl _) HB7.out.size)
      have kD := hide1 (end_over g (0 + 8) s other 12 w8 hr8 (by decide))
      clear kB hr8 hb8 hc7
      go_wp2_with fail
      refine kD.out.mono ?_
      rintro e w9 ⟨p9, rfl, hp9, _, hb9⟩
      have HB9 := hide1 (hb9.below HB8.out (by rw [HG.out]; exact Nat.le_refl _) HB8.out.size)
      have kC2 := hide1 (F.code_any w9 12 _ (et_next HET.out HB9.out) (ise_flt rfl hp9))
      clear kD hp9 hb9
      go_wp2_with fail
      refine kC2.out.mono ?_
      rintro e w10 ⟨rfl, hb10⟩
      have HB10 := hide1 (HB9.out.trans (hb10.mono HB9.out.size))
      clear kC2 hb10
      go_wp2_with (go_at_call 5; refine (kA _).out.mono ?_; rintro e w11 ⟨rfl, hb11⟩)
      go_ret
      exact ⟨rfl, HB10.out.trans (hb11.mono HB10.out.size)⟩
    · have e1 : numC 8 (restOf s (0 + 8)) = 0 := by rw [numC, if_pos (by rw [restOf, List.length_drop, nums_length]; omega)]
      rw [e1] at k2
      have h16' : (16 : Int) ≤ (s.size : Int) := by omega
      clear e1
      go_wp2_with fail
      refine k2.out.mono ?_
      rintro e w3 ⟨rfl, hr3, hb3⟩
      rw [rdN_ok] at hr3
      have kE := hide1 (err_none g _ s ⟨#[]⟩ w3 hr3)
      have kV := fun w => hide1 (value_any (s.extract 0 8) w (by rw [size_nums, nums_extract, List.length_drop, List.length_take]; omega))
      rw [← HX.out] at kV
      have hcut := fun w => run_cut8 s w (by omega)
      have HB3 := hide1 (hb3.below HB2.out (by rw [HG.out]; exact Nat.le_refl _) HB2.out.size)
      generalize s.extract 0 8 = s8 at *
      clear k2 hr3 hb3 HX
      go_wp2_with fail
      refine kE.out.mono ?_
      rintro e w4 ⟨rfl, q4, rfl⟩
      have HB4 := hide1 (drewN_below HB3.out q4)
      clear kE
      go_wp2_with fail
      refine (kV _).out.mono ?_
      rintro e w5 ⟨rfl, hw5⟩
      cases hw5
      go_wp2_with (go_at_call 5; refine (kA _).out.mono ?_; rintro e w11 ⟨rfl, hb11⟩)
      go_ret
      exact ⟨rfl, HB4.out.trans (hb11.mono HB4.out.size)⟩
end Go.Proofs.YtmmhfipdolbinaaDoor
