/- Put, and the document's. -/
import Derived.Test.YtnkdbkhgfakjaaaGreatDoorGc
import Derived.Test.YtnkdbkhgfakjaaaGreatDoorWf
namespace Go.Proofs.YtnkdbkhgfakjaaaGreatDoor
open Go.RowKit
set_option maxRecDepth 100000
attribute [local go_sem] not_any mf_any

set_option maxHeartbeats 1000000 in
theorem rput_any (x0 x1 x2 x3 x4 : Nat) (w : World) (h0 : x0 < 256) (h1 : x1 < 256) (h2 : x2 < 256) (h3 : x3 < 256) (h4 : x4 < 256) :
    Calls Tryz.prog 12 #[cls x0 x1 x2 x3 x4] w fun e w' => e = .returned (.string (txt [x0, x1, x2, x3, x4])) ∧ Below w.heap.size w w' := by
  have e0 : IntKind.u8.wrap (x0 : Int) = (x0 : Int) := by rw [IntKind.wrap_u8]; omega
  have e1 : IntKind.u8.wrap (x1 : Int) = (x1 : Int) := by rw [IntKind.wrap_u8]; omega
  have e2 : IntKind.u8.wrap (x2 : Int) = (x2 : Int) := by rw [IntKind.wrap_u8]; omega
  have e3 : IntKind.u8.wrap (x3 : Int) = (x3 : Int) := by rw [IntKind.wrap_u8]; omega
  have e4 : IntKind.u8.wrap (x4 : Int) = (x4 : Int) := by rw [IntKind.wrap_u8]; omega
  unfold cls
  go_enter Tryz.func12, Tryz.ntmps12
  go_upto_region 1 with (fail)
  generalize hX : World.alloc w _ = X
  have HX : Hid (Below w.heap.size w X) := by rw [← hX]; exact below1 _
  have H0 := hide1 (hX ▸ heap_alloc_new w _)
  obtain ⟨c0, c1, c2, c3, c4, l0⟩ := box5 H0.out
  have hcv : (convert 74 9 (.slice (some ⟨X.heap.size, 0, none⟩) 5 5)).run Tryz.prog (X.alloc (.cells #[.int .u8 (x0 : Int), .int .u8 (x1 : Int), .int .u8 (x2 : Int), .int .u8 (x3 : Int), .int .u8 (x4 : Int)] 5)) = .ok (.string (txt [x0, x1, x2, x3, x4])) (X.alloc (.cells #[.int .u8 (x0 : Int), .int .u8 (x1 : Int), .int .u8 (x2 : Int), .int .u8 (x3 : Int), .int .u8 (x4 : Int)] 5)) := by
    refine text_of rfl (fun j x hj => ?_)
    rw [cell_of_row _ _ _ _ _ _ (heap_alloc_new X _)]
    rcases j with _ | _ | _ | _ | _ | j
    · cases hj; rfl
    · cases hj; rfl
    · cases hj; rfl
    · cases hj; rfl
    · cases hj; rfl
    · simp at hj
  obtain ⟨t, ht⟩ : ∃ t, txt [x0, x1, x2, x3, x4] = t := ⟨_, rfl⟩
  rw [ht] at hcv
  have HT : Shy (txt [x0, x1, x2, x3, x4] = t) := ⟨ht⟩
  clear hX ht
  go_wp2
  go_ret
  rw [HT.out]
  exact ⟨rfl, HX.out.alloc HX.out.size _⟩

theorem fix1 {x : Nat} (h : x < 256) : fix x 1 = [x] := by
  have h2 := fix_val [x] (fun y hy => by rw [List.mem_singleton.1 hy]; exact h)
  have e : val [x] = x := by simp [val]
  rw [e] at h2
  exact h2

set_option maxHeartbeats 2000000 in
theorem put_any (g x0 x1 x2 x3 x4 : Nat) (w : World) (hw : Wr w g []) (h0 : x0 < 256) (h1 : x1 < 256) (h2 : x2 < 256) (h3 : x3 < 256) (h4 : x4 < 256) (hm : May x0 x1 x2 x3 x4) :
    Calls Tryz.prog 10 #[.pointer (some ⟨g, 0, none⟩), cls x0 x1 x2 x3 x4] w fun e w' => e = .returned (.tuple #[]) ∧ Wr w' g [x0, x1, x2, x3, x4] ∧ But g w w' := by
  have kM := fun w => hide1 (mayBe_any x0 x1 x2 x3 x4 w)
  rw [decide_eq_true hm] at kM
  have kU := fun (L : List Nat) (x : Nat) (W : World) (h : Wr W g L) (hl : L.length ≤ 5) (hx : x < 256) => hide1 (by have k := wU8_any g W L x h (by omega) hx; rw [fix1 hx] at k; exact k)
  have e0 : IntKind.u8.wrap (x0 : Int) = (x0 : Int) := by rw [IntKind.wrap_u8]; omega
  have e1 : IntKind.u8.wrap (x1 : Int) = (x1 : Int) := by rw [IntKind.wrap_u8]; omega
  have e2 : IntKind.u8.wrap (x2 : Int) = (x2 : Int) := by rw [IntKind.wrap_u8]; omega
  have e3 : IntKind.u8.wrap (x3 : Int) = (x3 : Int) := by rw [IntKind.wrap_u8]; omega
  have e4 : IntKind.u8.wrap (x4 : Int) = (x4 : Int) := by rw [IntKind.wrap_u8]; omega
  have HW := hide1 hw
  have HH := hide1 (And.intro h0 (And.intro h1 (And.intro h2 (And.intro h3 h4))))
  clear hm hw h0 h1 h2 h3 h4
  unfold cls at *
  go_enter Tryz.func10, Tryz.ntmps10
  go_upto_region 1 with (fail)
  generalize hX : World.alloc w _ = X
  have HX : Hid (Below w.heap.size w X) := by rw [← hX]; exact below1 _
  have H0 := hide1 (hX ▸ heap_alloc_new w _)
  obtain ⟨c0, c1, c2, c3, c4, l0⟩ := box5 H0.out
  clear hX
  go_wp2_with fail
  refine (kM _).out.mono ?_
  rintro e w1 ⟨rfl, hb⟩
  have H1 := hide1 ((hb.block _ (lt_heap H0.out)).trans H0.out)
  have HX1 := hide1 (HX.out.trans (hb.mono HX.out.size))
  clear hb H0 HX c0 c1 c2 c3 c4 l0
  obtain ⟨c0, c1, c2, c3, c4, l0⟩ := box5 H1.out
  have W1 := hide1 (HW.out.below HX1.out)
  have B1 : Hid (But g w w1) := But.of_below HX1.out
  clear HX1 H1 HW
  go_wp2_with fail
  clear c0 c1 c2 c3 c4 l0
  go_loopw [20] (fun i wr => ∃ j : Nat, j ≤ 5 ∧ i = .int .i64 j ∧ Wr wr g (([x0, x1, x2, x3, x4] : List Nat).take j) ∧ But g w wr) (fun i _ => 5 - (intOf i).toNat)
  case atStart => exact ⟨0, Nat.zero_le _, rfl, W1.out, B1.out⟩
  case round =>
    obtain ⟨j, hj, rfl, hW, hB⟩ := hrel
    have HWW := hide1 hW
    have HBB := hide1 hB
    clear hW hB W1 B1
    obtain ⟨h0, h1, h2, h3, h4⟩ := HH.out
    rcases (show j = 0 ∨ j = 1 ∨ j = 2 ∨ j = 3 ∨ j = 4 ∨ j = 5 by omega) with rfl | rfl | rfl | rfl | rfl | rfl
    · rw [show ((0 : Nat) : Int) = 0 from rfl]
      have hix : ∀ W : World, (Instr.index 54 (.agg #[.int .i64 (x0 : Int), .int .i64 (x1 : Int), .int .i64 (x2 : Int), .int .i64 (x3 : Int), .int .i64 (x4 : Int)]) (.int .i64 0)).run Tryz.prog W = .ok (.int .i64 (x0 : Int)) W := fun W => by kernel_rfl
      have ku := kU _ x0 wr HWW.out (by simp) h0
      clear h0 h1 h2 h3 h4
      go_wp2_with fail
      refine ku.out.mono ?_
      rintro e w2 ⟨rfl, hW2, hB2⟩
      have K1 := hide1 hW2
      have K2 := hide1 (HBB.out.trans hB2)
      clear hW2 hB2
      go_wp2
      go_roundw
      case rel => exact ⟨1, by omega, by go_num, K1.out, K2.out⟩
      case measure => simp [intOf]
    · rw [show ((1 : Nat) : Int) = 1 from rfl]
      have hix : ∀ W : World, (Instr.index 54 (.agg #[.int .i64 (x0 : Int), .int .i64 (x1 : Int), .int .i64 (x2 : Int), .int .i64 (x3 : Int), .int .i64 (x4 : Int)]) (.int .i64 1)).run Tryz.prog W = .ok (.int .i64 (x1 : Int)) W := fun W => by kernel_rfl
      have ku := kU _ x1 wr HWW.out (by simp) h1
      clear h0 h1 h2 h3 h4
      go_wp2_with fail
      refine ku.out.mono ?_
      rintro e w2 ⟨rfl, hW2, hB2⟩
      have K1 := hide1 hW2
      have K2 := hide1 (HBB.out.trans hB2)
      clear hW2 hB2
      go_wp2
      go_roundw
      case rel => exact ⟨2, by omega, by go_num, K1.out, K2.out⟩
      case measure => simp [intOf]
    · rw [show ((2 : Nat) : Int) = 2 from rfl]
      have hix : ∀ W : World, (Instr.index 54 (.agg #[.int .i64 (x0 : Int), .int .i64 (x1 : Int), .int .i64 (x2 : Int), .int .i64 (x3 : Int), .int .i64 (x4 : Int)]) (.int .i64 2)).run Tryz.prog W = .ok (.int .i64 (x2 : Int)) W := fun W => by kernel_rfl
      have ku := kU _ x2 wr HWW.out (by simp) h2
      clear h0 h1 h2 h3 h4
      go_wp2_with fail
      refine ku.out.mono ?_
      rintro e w2 ⟨rfl, hW2, hB2⟩
      have K1 := hide1 hW2
      have K2 := hide1 (HBB.out.trans hB2)
      clear hW2 hB2
      go_wp2
      go_roundw
      case rel => exact ⟨3, by omega, by go_num, K1.out, K2.out⟩
      case measure => simp [intOf]
    · rw [show ((3 : Nat) : Int) = 3 from rfl]
      have hix : ∀ W : World, (Instr.index 54 (.agg #[.int .i64 (x0 : Int), .int .i64 (x1 : Int), .int .i64 (x2 : Int), .int .i64 (x3 : Int), .int .i64 (x4 : Int)]) (.int .i64 3)).run Tryz.prog W = .ok (.int .i64 (x3 : Int)) W := fun W => by kernel_rfl
      have ku := kU _ x3 wr HWW.out (by simp) h3
      clear h0 h1 h2 h3 h4
      go_wp2_with fail
      refine ku.out.mono ?_
      rintro e w2 ⟨rfl, hW2, hB2⟩
      have K1 := hide1 hW2
      have K2 := hide1 (HBB.out.trans hB2)
      clear hW2 hB2
      go_wp2
      go_roundw
      case rel => exact ⟨4, by omega, by go_num, K1.out, K2.out⟩
      case measure => simp [intOf]
    · rw [show ((4 : Nat) : Int) = 4 from rfl]
      have hix : ∀ W : World, (Instr.index 54 (.agg #[.int .i64 (x0 : Int), .int .i64 (x1 : Int), .int .i64 (x2 : Int), .int .i64 (x3 : Int), .int .i64 (x4 : Int)]) (.int .i64 4)).run Tryz.prog W = .ok (.int .i64 (x4 : Int)) W := fun W => by kernel_rfl
      have ku := kU _ x4 wr HWW.out (by simp) h4
      clear h0 h1 h2 h3 h4
      go_wp2_with fail
      refine ku.out.mono ?_
      rintro e w2 ⟨rfl, hW2, hB2⟩
      have K1 := hide1 hW2
      have K2 := hide1 (HBB.out.trans hB2)
      clear hW2 hB2
      go_wp2
      go_roundw
      case rel => exact ⟨5, by omega, by go_num, K1.out, K2.out⟩
      case measure => simp [intOf]
    · rw [show ((5 : Nat) : Int) = 5 from rfl]
      go_wp2
      refine bodyPost_end (results_none Tryz.results10 _ _ _) rfl ?_
      exact ⟨rfl, HWW.out, HBB.out⟩

end Go.Proofs.YtnkdbkhgfakjaaaGreatDoor
