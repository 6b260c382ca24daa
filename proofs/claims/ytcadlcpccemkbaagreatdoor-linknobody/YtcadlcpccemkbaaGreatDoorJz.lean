/- LinkNobody. -/
import Derived.Test.YtcadlcpccemkbaaGreatDoorJo
namespace Go.Proofs.YtcadlcpccemkbaaGreatDoor
open Go.RowKit
set_option maxRecDepth 100000
attribute [local go_sem] not_any

set_option maxHeartbeats 4000000 in
theorem nobody_all (w : World) (s : ByteArray) (he : F.Et w) :
    Calls Tryz.prog 4 #[.string s] w fun e w' => e = .returned (.bool true) ∧ Below w.heap.size w w' := by
  have kA := fun w => hide1 (awake_any w)
  have HET := hide1 he
  clear he
  go_enter Tryz.func4, Tryz.ntmps4
  go_upto_region 2 with (fail)
  generalize hX : World.alloc (World.alloc w _) _ = W0
  have B0 : Hid (Below w.heap.size w W0) := by rw [← hX]; exact ((Below.refl _ _).alloc (Nat.le_refl _) _).alloc (by simp) _
  have R0 := hide1 (hX ▸ heap_alloc2_old w _ _)
  have R1 := hide1 (hX ▸ heap_alloc2_new w _ _)
  obtain ⟨g0, hg0⟩ : ∃ b, w.heap.size = b := ⟨_, rfl⟩
  obtain ⟨g1, hg1⟩ : ∃ b, w.heap.size + 1 = b := ⟨_, rfl⟩
  rw [hg1] at R1 ⊢
  rw [hg0] at R0 R1
  clear hX hg0 hg1
  have E0 := hide1 (HET.out.below B0.out HET.out.pos)
  go_loopw [11] (fun i wr => ∃ j : Nat, j ≤ 2 ∧ i = .int .i64 (j : Int) ∧ Below W0.heap.size W0 wr) (fun i _ => 2 - (intOf i).toNat)
  case atStart => exact ⟨0, by omega, rfl, Below.refl _ _⟩
  case round =>
    obtain ⟨j, hj, rfl, hB⟩ := hrel
    have HB := hide1 hB
    by_cases hj2 : j < 2
    · have gin : (j : Int) < 2 := by omega
      obtain ⟨p, hp, hN⟩ : ∃ p, wr.cell? ⟨g1, j, none⟩ = some p ∧ Nob wr p := by
        have r1 := (hB.block g1 (lt_heap R1.out)).trans R1.out
        have r0 := (hB.block g0 (lt_heap R0.out)).trans R0.out
        rcases (show j = 0 ∨ j = 1 by omega) with rfl | rfl
        · exact ⟨_, (box2 r1).1, .inl rfl⟩
        · exact ⟨_, (box2 r1).2.1, .inr ⟨g0, rfl, r0⟩⟩
      have NB := hide1 hN
      have ER := hide1 (E0.out.below hB E0.out.pos)
      clear hB hN
      have k1 := hide1 (no_recv NB.out s)
      go_wp2_with fail
      refine k1.out.mono ?_
      rintro e W1 ⟨z1, rfl, hE1, hb1⟩
      have N1 := hide1 (NB.out.below hb1 (Nat.le_refl _))
      have ER1 := hide1 (ER.out.below hb1 ER.out.pos)
      have B1 := hide1 hb1
      have b1' : Hid (Below wr.heap.size wr (W1.alloc (.cells #[.slice none 0 0, .bool false] 59))) := hb1.alloc hb1.size _
      have IE1 : Hid (F.IsE (W1.alloc (.cells #[.slice none 0 0, .bool false] 59)) 3 z1) := by
        rcases hE1 with h1 | ⟨hc, q, hq, t, hr⟩
        · exact .inl h1
        · exact .inr ⟨hc, q, hq, t, (Below.heap_alloc _ _ _ (lt_heap hr)).trans hr⟩
      have N2 := hide1 (NB.out.below b1'.out (Nat.le_refl _))
      have ER2 := hide1 (ER.out.below b1'.out ER.out.pos)
      clear k1 hE1 hb1 hp
      go_upto_region 5 with (fail)
      generalize hW2 : World.alloc W1 _ = W2 at IE1 N2 ER2 b1' ⊢
      have r2 := hW2 ▸ heap_alloc_new W1 _
      obtain ⟨g2, hg2⟩ : ∃ g, W1.heap.size = g := ⟨_, rfl⟩
      rw [hg2] at r2 ⊢
      obtain ⟨c0, c1, _, _, _⟩ := box2 r2
      clear hW2 hg2 r2 N1 ER1 B1
      have k2 := hide1 (F.code_any W2 3 z1 ER2.out IE1.out)
      go_wp2_with fail
      refine k2.out.mono ?_
      rintro e W3 ⟨rfl, hb3⟩
      have N3 := hide1 (N2.out.below hb3 (Nat.le_refl _))
      have ER3 := hide1 (ER2.out.below hb3 ER2.out.pos)
      have B3 : Hid (Below wr.heap.size wr W3) := b1'.out.trans (hb3.mono b1'.out.size)
      have k3 := hide1 (no_send N3.out s)
      clear k2 hb3 b1' IE1 N2 ER2 c0 c1
      go_wp2_with fail
      refine k3.out.mono ?_
      rintro e W4 ⟨z4, rfl, hE4, hb4⟩
      have N4 := hide1 (N3.out.below hb4 (Nat.le_refl _))
      have ER4 := hide1 (ER3.out.below hb4 ER3.out.pos)
      have B4 : Hid (Below wr.heap.size wr W4) := B3.out.trans (hb4.mono B3.out.size)
      have k4 := hide1 (F.code_any W4 3 z4 ER4.out hE4)
      clear k3 hb4 hE4 N3 ER3 B3
      go_wp2_with fail
      refine k4.out.mono ?_
      rintro e W5 ⟨rfl, hb5⟩
      have N5 := hide1 (N4.out.below hb5 (Nat.le_refl _))
      have B5 : Hid (Below wr.heap.size wr W5) := B4.out.trans (hb5.mono B4.out.size)
      clear k4 hb5 N4 ER4 B4
      have qno_flush := hide1 (no_flush N5.out)
      go_wp2_with fail
      refine qno_flush.out.mono ?_
      rintro e w9 ⟨rfl, hw9⟩
      obtain rfl := hw9.symm
      clear qno_flush
      have qno_tick := hide1 (no_tick N5.out)
      go_wp2_with fail
      refine qno_tick.out.mono ?_
      rintro e w9 ⟨rfl, hw9⟩
      obtain rfl := hw9.symm
      clear qno_tick
      have qno_own := hide1 (no_own N5.out)
      go_wp2_with fail
      refine qno_own.out.mono ?_
      rintro e w9 ⟨rfl, hw9⟩
      obtain rfl := hw9.symm
      clear qno_own
      have qno_peer := hide1 (no_peer N5.out)
      go_wp2_with fail
      refine qno_peer.out.mono ?_
      rintro e w9 ⟨rfl, hw9⟩
      obtain rfl := hw9.symm
      clear qno_peer
      have qno_ready := hide1 (no_ready N5.out)
      go_wp2_with fail
      refine qno_ready.out.mono ?_
      rintro e w9 ⟨rfl, hw9⟩
      obtain rfl := hw9.symm
      clear qno_ready
      have qno_room := hide1 (no_room N5.out)
      go_wp2_with fail
      refine qno_room.out.mono ?_
      rintro e w9 ⟨rfl, hw9⟩
      obtain rfl := hw9.symm
      clear qno_room
      have qno_wait := hide1 (no_wait N5.out)
      go_wp2_with fail
      refine qno_wait.out.mono ?_
      rintro e w9 ⟨rfl, hw9⟩
      obtain rfl := hw9.symm
      clear qno_wait
      go_wp2
      go_roundw
      case rel => exact ⟨j + 1, by omega, by go_num, HB.out.trans (B5.out.mono HB.out.size)⟩
      case measure => simp [intOf]; omega
    · have gin : ¬ (j : Int) < 2 := by omega
      clear hB
      go_wp2_with (go_at_call 7; refine (kA _).out.mono ?_; rintro e W9 ⟨rfl, hb9⟩)
      go_ret
      have b2 := B0.out.trans (HB.out.mono B0.out.size)
      exact ⟨rfl, b2.trans (hb9.mono b2.size)⟩

end Go.Proofs.YtcadlcpccemkbaaGreatDoor
