/- FrameBack: what is encoded is decoded as it was, and what is decoded encoded. -/
import Derived.Test.YtcgpokbijaioiaaXg
namespace Go.Proofs.Ytcgpokbijaioiaa
open Go.RowKit
set_option maxRecDepth 100000
attribute [local go_sem] not_any mf_any

/- behind both halves: all that the second half needs -/
structure BackP (w : World) (e : Ending) (w' : World) : Prop where
  yes : e = .returned (.bool true)
  bel : Below w.heap.size w w'
theorem u_err (p : Nat) (w : World) : (binOp .neq 27 (.iface 57 (.pointer (some ⟨p, 0, none⟩))) .nilIface).run Try.prog w = .ok (.bool true) w := by kernel_rfl

set_option maxHeartbeats 2000000 in
theorem back_all (w : World) (k : Int) (o p q a : Nat) (b s : ByteArray) (ho : o < 4294967296) (hp : p < 4294967296) (hq : q < 4294967296) (ha : a < 4294967296) :
    Calls Try.prog 3 #[fra k o p q a b, .string s] w fun e w' => e = .returned (.bool true) ∧ Below w.heap.size w w' := by
  have mx := mixed
  have kA := fun w => hide1 (awake_any w)
  unfold fra
  go_enter Try.func3, Try.ntmps3
  go_upto_region 1 with (fail)
  generalize hX : World.alloc w _ = X
  have HX : Hid (Below w.heap.size w X) := by rw [← hX]; exact below1 _
  have h0 := hX ▸ heap_alloc_new w _
  obtain ⟨g, hg⟩ : ∃ g, w.heap.size = g := ⟨_, rfl⟩
  have HG : Shy (w.heap.size = g) := ⟨hg⟩
  rw [hg] at h0 ⊢
  clear hg hX
  obtain ⟨c0, c1, c2, c3, c4, c5, l0⟩ := box6 h0
  have H0 := hide1 h0
  clear h0
  by_cases hb : b.size ≤ 66000
  rotate_left
  · have hb' : decide (66000 < b.size) = true := decide_eq_true (by omega)
    have hb2 : 66000 < b.size := by omega
    clear hb
    go_wp2_with (go_at_call 5; refine (kA _).out.mono ?_; rintro e w1 ⟨rfl, hb1⟩)
    go_ret
    exact ⟨rfl, HX.out.trans (hb1.mono HX.out.size)⟩
  by_cases hs : s.size ≤ 66000
  rotate_left
  · have hs' : decide (66000 < s.size) = true := decide_eq_true (by omega)
    have hs2 : 66000 < s.size := by omega
    have hb' : decide (66000 < b.size) = false := decide_eq_false (by omega)
    have hb2 : ¬ 66000 < b.size := by omega
    clear hb hs
    go_wp2_with (go_at_call 5; refine (kA _).out.mono ?_; rintro e w1 ⟨rfl, hb1⟩)
    go_ret
    exact ⟨rfl, HX.out.trans (hb1.mono HX.out.size)⟩
  have hs' : decide (66000 < s.size) = false := decide_eq_false (by omega)
  have hs2 : ¬ 66000 < s.size := by omega
  have hb' : decide (66000 < b.size) = false := decide_eq_false (by omega)
  have hb2 : ¬ 66000 < b.size := by omega
  have HBZ : Shy (b.size ≤ 66000) := ⟨hb⟩
  have HSZ : Shy (s.size ≤ 66000) := ⟨hs⟩
  clear hb hs
  have kO := hide1 (of_any k o p q a b X)
  unfold fra at kO
  go_wp2_with fail
  refine kO.out.mono ?_
  rintro e w1 ⟨rfl, hb1⟩
  have B1 := hide1 (HX.out.trans (hb1.mono HX.out.size))
  have R1 := hide1 ((hb1.block g l0).trans H0.out)
  clear kO hb1 c0 c1 c2 c3 c4 c5 l0 H0 HX hs' hs2 hb' hb2
  by_cases hc : chk k o p q a b.size = 0
  rotate_left
  · have kE := hide1 (encode_bad k o p q a b w1 hc)
    unfold fra at kE
    have HC : Shy (chk k o p q a b.size ≠ 0) := ⟨hc⟩
    clear hc ho hp hq ha
    go_wp2_with fail
    refine kE.out.mono ?_
    rintro e w2 ⟨v, rfl, herr, hb2⟩
    have B2 := hide1 (B1.out.trans (hb2.mono B1.out.size))
    obtain ⟨h0, _⟩ | ⟨_, pe, rfl, _⟩ := herr
    · exact absurd h0 HC.out
    clear kE hb2 B1 R1
    go_upto_region 8 with (fail)
    by_cases h17 : 17 ≤ s.size
    rotate_left
    · have kD := hide1 (decode_short s w2 (by have := HSZ.out; omega) (by omega))
      unfold fra at kD
      clear h17
      go_wp2_with fail
      refine kD.out.mono ?_
      rintro e w5 ⟨m, pe, fe, rfl, _, _, _, hb5⟩
      have B5 := hide1 (B2.out.trans (hb5.mono B2.out.size))
      clear kD hb5
      have kT := fun w => hide1 (told_any 0 0 0 0 0 ⟨#[]⟩ w)
      unfold fra at kT
      have hEq := eq_same 0 0 0 0 0 ⟨#[]⟩
      have hEG : Try.prog.eqGuardType Try.prog.depth 24 = false := by kernel_rfl
      go_upto_region 9 with (fail)
      generalize hY : World.alloc w5 _ = Y
      have F6 := hide1 (hY ▸ heap_alloc_new w5 _)
      have B6 : Hid (Below w.heap.size w Y) := by rw [← hY]; exact B5.out.alloc B5.out.size _
      obtain ⟨b9, hb9⟩ : ∃ b, w5.heap.size = b := ⟨_, rfl⟩
      rw [hb9] at F6 ⊢
      clear hY hb9 B5
      obtain ⟨d0, d1, d2, d3, d4, d5, lb⟩ := box6 F6.out
      go_wp2_with fail
      refine (kT _).out.mono ?_
      rintro e w6 ⟨rfl, hb6⟩
      have B7 := hide1 (B6.out.trans (hb6.mono B6.out.size))
      clear hb6 d0 d1 d2 d3 d4 d5 lb
      go_wp2_with (go_at_call 5; refine (kA _).out.mono ?_; rintro e w7 ⟨rfl, hb7⟩)
      go_ret
      exact ⟨rfl, B7.out.trans (hb7.mono B7.out.size)⟩
    by_cases hc2 : decC s = 0
    rotate_left
    · have kD := hide1 (decode_bad s w2 (by have := HSZ.out; omega) h17 hc2)
      unfold fra at kD
      clear h17 hc2
      go_wp2_with fail
      refine kD.out.mono ?_
      rintro e w5 ⟨m, rfl, _, _, hb5⟩
      have B5 := hide1 (B2.out.trans (hb5.mono B2.out.size))
      clear kD hb5
      have kT := fun w => hide1 (told_any 0 0 0 0 0 ⟨#[]⟩ w)
      unfold fra at kT
      have hEq := eq_same 0 0 0 0 0 ⟨#[]⟩
      have hEG : Try.prog.eqGuardType Try.prog.depth 24 = false := by kernel_rfl
      go_upto_region 9 with (fail)
      generalize hY : World.alloc w5 _ = Y
      have F6 := hide1 (hY ▸ heap_alloc_new w5 _)
      have B6 : Hid (Below w.heap.size w Y) := by rw [← hY]; exact B5.out.alloc B5.out.size _
      obtain ⟨b9, hb9⟩ : ∃ b, w5.heap.size = b := ⟨_, rfl⟩
      rw [hb9] at F6 ⊢
      clear hY hb9 B5
      obtain ⟨d0, d1, d2, d3, d4, d5, lb⟩ := box6 F6.out
      go_wp2_with fail
      refine (kT _).out.mono ?_
      rintro e w6 ⟨rfl, hb6⟩
      have B7 := hide1 (B6.out.trans (hb6.mono B6.out.size))
      clear hb6 d0 d1 d2 d3 d4 d5 lb
      go_wp2_with (go_at_call 5; refine (kA _).out.mono ?_; rintro e w7 ⟨rfl, hb7⟩)
      go_ret
      exact ⟨rfl, B7.out.trans (hb7.mono B7.out.size)⟩
    have kD := hide1 (decode_ok s w2 (by have := HSZ.out; omega) h17 hc2)
    have kF := fun w => hide1 (encode_ok (hdK s) (hdN s 1) (hdN s 5) (hdN s 9) (hdN s 13) (s.extract 17 s.size) w (by rw [body_size s]; exact hc2) (hdN_lt _ _) (hdN_lt _ _) (hdN_lt _ _) (hdN_lt _ _))
    rw [dec_enc s h17] at kF
    generalize s.extract 17 s.size = BD at *
    generalize hdK s = K' at *
    generalize hdN s 1 = O' at *
    generalize hdN s 5 = P' at *
    generalize hdN s 9 = Q' at *
    generalize hdN s 13 = A' at *
    unfold fra at kD kF
    clear h17 hc2
    go_wp2_with fail
    refine kD.out.mono ?_
    rintro e w5 ⟨rfl, hb5⟩
    have B5 := hide1 (B2.out.trans (hb5.mono B2.out.size))
    clear kD hb5
    go_upto_region 9 with (fail)
    generalize hY : World.alloc w5 _ = Y
    have F6 := hide1 (hY ▸ heap_alloc_new w5 _)
    have B6 : Hid (Below w.heap.size w Y) := by rw [← hY]; exact B5.out.alloc B5.out.size _
    obtain ⟨b9, hb9⟩ : ∃ b, w5.heap.size = b := ⟨_, rfl⟩
    rw [hb9] at F6 ⊢
    clear hY hb9 B5
    obtain ⟨d0, d1, d2, d3, d4, d5, lb⟩ := box6 F6.out
    go_wp2_with fail
    refine (kF _).out.mono ?_
    rintro e w6 ⟨rfl, hb6⟩
    have B7 := hide1 (B6.out.trans (hb6.mono B6.out.size))
    clear hb6 d0 d1 d2 d3 d4 d5 lb kF
    go_wp2_with (go_at_call 5; refine (kA _).out.mono ?_; rintro e w7 ⟨rfl, hb7⟩)
    go_ret
    exact ⟨rfl, B7.out.trans (hb7.mono B7.out.size)⟩
  obtain ⟨kn, rfl⟩ : ∃ n : Nat, k = (n : Int) := ⟨k.toNat, by have := (chk_size hc).2; omega⟩
  have kE := hide1 (encode_ok kn o p q a b w1 hc ho hp hq ha)
  have kD := fun w => hide1 (decode_ok (txt (encB kn o p q a b)) w (by rw [enc_size]; have := HBZ.out; omega) (by rw [enc_size]; omega) (enc_dec hc ho hp hq ha))
  rw [enc_hdK _ _ _ _ _ _ (by have := (chk_size hc).2; omega), enc_hd1 _ _ _ _ _ _ ho, enc_hd5 _ _ _ _ _ _ hp, enc_hd9 _ _ _ _ _ _ hq, enc_hd13 _ _ _ _ _ _ ha, enc_body] at kD
  generalize txt (encB kn o p q a b) = T at *
  unfold fra at kE kD
  clear hc ho hp hq ha
  go_wp2_with fail
  refine kE.out.mono ?_
  rintro e w2 ⟨rfl, hb2⟩
  have B2 := hide1 (B1.out.trans (hb2.mono B1.out.size))
  have R2 := hide1 ((hb2.block g (lt_heap R1.out)).trans R1.out)
  clear kE hb2 B1 R1
  go_wp2_with fail
  refine (kD _).out.mono ?_
  rintro e w3 ⟨rfl, hb3⟩
  have B3 := hide1 (B2.out.trans (hb3.mono B2.out.size))
  have R3 := hide1 ((hb3.block g (lt_heap R2.out)).trans R2.out)
  clear kD hb3 B2 R2
  go_upto_region 6 with (fail)
  generalize hY : World.alloc w3 _ = Y
  have R4 : Hid (Y.heap[g]? = some (.cells #[.int .i64 (kn : Int), .int .u32 (o : Int), .int .u32 (p : Int), .int .u32 (q : Int), .int .u32 (a : Int), .string b] 24 (0, 0))) := by rw [← hY]; exact (Below.heap_alloc _ _ _ (lt_heap R3.out)).trans R3.out
  have F4 := hide1 (hY ▸ heap_alloc_new w3 _)
  have B4 : Hid (Below w.heap.size w Y) := by rw [← hY]; exact B3.out.alloc B3.out.size _
  obtain ⟨b7, hb7⟩ : ∃ b, w3.heap.size = b := ⟨_, rfl⟩
  rw [hb7] at F4 ⊢
  clear hY hb7 B3 R3
  obtain ⟨c0, c1, c2, c3, c4, c5, l0⟩ := box6 R4.out
  obtain ⟨d0, d1, d2, d3, d4, d5, lb⟩ := box6 F4.out
  have kT := fun w => hide1 (told_any kn o p q a b w)
  unfold fra at kT
  have hEq := eq_same kn o p q a b
  have hEG : Try.prog.eqGuardType Try.prog.depth 24 = false := by kernel_rfl
  have hne : Nonempty (Bw Y) := ⟨⟨Y, Below.refl _ _⟩⟩
  have c0 := bw_cell c0
  have c1 := bw_cell c1
  have c2 := bw_cell c2
  have c3 := bw_cell c3
  have c4 := bw_cell c4
  have c5 := bw_cell c5
  have d0 := bw_cell d0
  have d1 := bw_cell d1
  have d2 := bw_cell d2
  have d3 := bw_cell d3
  have d4 := bw_cell d4
  have d5 := bw_cell d5
  refine wp_region_quiet_bw mx (by kernel_rfl) ?_
  repeat go_big_quiet_step (first | (go_at_call 9; exact bw_of (kT _).out))
  rintro w4 ⟨P, rfl⟩
  have B5' := hide1 (B4.out.trans (P.h.mono B4.out.size))
  clear hEq kT c0 c1 c2 c3 c4 c5 d0 d1 d2 d3 d4 d5 l0 lb hne R4 F4
  go_upto_region 8 with (fail)
  by_cases h17 : 17 ≤ s.size
  rotate_left
  · have kD := hide1 (decode_short s P.w (by have := HSZ.out; omega) (by omega))
    unfold fra at kD
    clear h17
    go_wp2_with fail
    refine kD.out.mono ?_
    rintro e w5 ⟨m, pe, fe, rfl, _, _, _, hb5⟩
    have B5 := hide1 (B5'.out.trans (hb5.mono B5'.out.size))
    clear kD hb5
    have kT := fun w => hide1 (told_any 0 0 0 0 0 ⟨#[]⟩ w)
    unfold fra at kT
    have hEq := eq_same 0 0 0 0 0 ⟨#[]⟩
    have hEG : Try.prog.eqGuardType Try.prog.depth 24 = false := by kernel_rfl
    go_upto_region 9 with (fail)
    generalize hY : World.alloc w5 _ = Y
    have F6 := hide1 (hY ▸ heap_alloc_new w5 _)
    have B6 : Hid (Below w.heap.size w Y) := by rw [← hY]; exact B5.out.alloc B5.out.size _
    obtain ⟨b9, hb9⟩ : ∃ b, w5.heap.size = b := ⟨_, rfl⟩
    rw [hb9] at F6 ⊢
    clear hY hb9 B5
    obtain ⟨d0, d1, d2, d3, d4, d5, lb⟩ := box6 F6.out
    go_wp2_with fail
    refine (kT _).out.mono ?_
    rintro e w6 ⟨rfl, hb6⟩
    have B7 := hide1 (B6.out.trans (hb6.mono B6.out.size))
    clear hb6 d0 d1 d2 d3 d4 d5 lb
    go_wp2_with (go_at_call 5; refine (kA _).out.mono ?_; rintro e w7 ⟨rfl, hb7⟩)
    go_ret
    exact ⟨rfl, B7.out.trans (hb7.mono B7.out.size)⟩
  by_cases hc2 : decC s = 0
  rotate_left
  · have kD := hide1 (decode_bad s P.w (by have := HSZ.out; omega) h17 hc2)
    unfold fra at kD
    clear h17 hc2
    go_wp2_with fail
    refine kD.out.mono ?_
    rintro e w5 ⟨m, rfl, _, _, hb5⟩
    have B5 := hide1 (B5'.out.trans (hb5.mono B5'.out.size))
    clear kD hb5
    have kT := fun w => hide1 (told_any 0 0 0 0 0 ⟨#[]⟩ w)
    unfold fra at kT
    have hEq := eq_same 0 0 0 0 0 ⟨#[]⟩
    have hEG : Try.prog.eqGuardType Try.prog.depth 24 = false := by kernel_rfl
    go_upto_region 9 with (fail)
    generalize hY : World.alloc w5 _ = Y
    have F6 := hide1 (hY ▸ heap_alloc_new w5 _)
    have B6 : Hid (Below w.heap.size w Y) := by rw [← hY]; exact B5.out.alloc B5.out.size _
    obtain ⟨b9, hb9⟩ : ∃ b, w5.heap.size = b := ⟨_, rfl⟩
    rw [hb9] at F6 ⊢
    clear hY hb9 B5
    obtain ⟨d0, d1, d2, d3, d4, d5, lb⟩ := box6 F6.out
    go_wp2_with fail
    refine (kT _).out.mono ?_
    rintro e w6 ⟨rfl, hb6⟩
    have B7 := hide1 (B6.out.trans (hb6.mono B6.out.size))
    clear hb6 d0 d1 d2 d3 d4 d5 lb
    go_wp2_with (go_at_call 5; refine (kA _).out.mono ?_; rintro e w7 ⟨rfl, hb7⟩)
    go_ret
    exact ⟨rfl, B7.out.trans (hb7.mono B7.out.size)⟩
  have kD := hide1 (decode_ok s P.w (by have := HSZ.out; omega) h17 hc2)
  have kF := fun w => hide1 (encode_ok (hdK s) (hdN s 1) (hdN s 5) (hdN s 9) (hdN s 13) (s.extract 17 s.size) w (by rw [body_size s]; exact hc2) (hdN_lt _ _) (hdN_lt _ _) (hdN_lt _ _) (hdN_lt _ _))
  rw [dec_enc s h17] at kF
  generalize s.extract 17 s.size = BD at *
  generalize hdK s = K' at *
  generalize hdN s 1 = O' at *
  generalize hdN s 5 = P' at *
  generalize hdN s 9 = Q' at *
  generalize hdN s 13 = A' at *
  unfold fra at kD kF
  clear h17 hc2
  go_wp2_with fail
  refine kD.out.mono ?_
  rintro e w5 ⟨rfl, hb5⟩
  have B5 := hide1 (B5'.out.trans (hb5.mono B5'.out.size))
  clear kD hb5
  go_upto_region 9 with (fail)
  generalize hY : World.alloc w5 _ = Y
  have F6 := hide1 (hY ▸ heap_alloc_new w5 _)
  have B6 : Hid (Below w.heap.size w Y) := by rw [← hY]; exact B5.out.alloc B5.out.size _
  obtain ⟨b9, hb9⟩ : ∃ b, w5.heap.size = b := ⟨_, rfl⟩
  rw [hb9] at F6 ⊢
  clear hY hb9 B5
  obtain ⟨d0, d1, d2, d3, d4, d5, lb⟩ := box6 F6.out
  go_wp2_with fail
  refine (kF _).out.mono ?_
  rintro e w6 ⟨rfl, hb6⟩
  have B7 := hide1 (B6.out.trans (hb6.mono B6.out.size))
  clear hb6 d0 d1 d2 d3 d4 d5 lb kF
  go_wp2_with (go_at_call 5; refine (kA _).out.mono ?_; rintro e w7 ⟨rfl, hb7⟩)
  go_ret
  exact ⟨rfl, B7.out.trans (hb7.mono B7.out.size)⟩
end Go.Proofs.Ytcgpokbijaioiaa
