/- FrameEncodes: what is wrong with every frame, and its bytes. -/
import Derived.Test.YtcgpokbijaioiaaDoorXj
import Derived.Test.YtcgpokbijaioiaaDoorFd
namespace Go.Proofs.YtcgpokbijaioiaaDoor
open Go.RowKit
set_option maxRecDepth 100000
attribute [local go_sem] not_any mf_any

theorem isE_of {W : World} {c : Int} {f : ByteArray} {v : Value} (h : ErrIs W c f v) : F.IsE W c v := by
  rcases h with h | ⟨hc, p, rfl, hp⟩
  · exact .inl h
  · exact .inr ⟨by simpa using hc, p, rfl, f, hp⟩

/- the last region, whatever was encoded -/
set_option maxHeartbeats 2000000 in
theorem encodes_all (w : World) (k : Int) (o p q a : Nat) (b : ByteArray) (ho : o < 4294967296) (hp : p < 4294967296) (hq : q < 4294967296) (ha : a < 4294967296) (het : F.Et w) :
    Calls Tryd.prog 3 #[fra k o p q a b] w fun e w' => e = .returned (.bool true) ∧ Below w.heap.size w w' := by
  have mx := mixed
  have kA := fun w => hide1 (awake_any w)
  have kO := fun w => hide1 (of_any k o p q a b w)
  have kC := fun w => hide1 (check_any k o p q a b w)
  have kR := fun w => hide1 (rcheck_any k o p q a b w)
  have kE : ∀ w, Hid (Calls Tryd.prog 6 #[fra k o p q a b] w fun e w' => ∃ T v, e = .returned (.tuple #[.string T, v]) ∧ (T = if chk k o p q a b.size = 0 then txt (encB k.toNat o p q a b) else ⟨#[]⟩) ∧ F.IsE w' (chk k o p q a b.size) v ∧ Below w.heap.size w w') := fun w => by
    by_cases hc : chk k o p q a b.size = 0
    · obtain ⟨kn, rfl⟩ : ∃ n : Nat, k = (n : Int) := ⟨k.toNat, by have := (chk_size hc).2; omega⟩
      refine (encode_ok kn o p q a b w hc ho hp hq ha).mono ?_
      rintro e w' ⟨rfl, hb⟩
      exact ⟨_, _, rfl, by rw [if_pos hc, Int.toNat_natCast], by rw [hc]; exact F.IsE.nil _, hb⟩
    · refine (encode_bad k o p q a b w hc).mono ?_
      rintro e w' ⟨v, rfl, he, hb⟩
      exact ⟨_, _, rfl, by rw [if_neg hc], isE_of he, hb⟩
  have kN : ∀ w, Hid (Calls Tryd.prog 8 #[fra k o p q a b] w fun e w' => ∃ T, e = .returned (.tuple #[.string T, .int .i64 (chk k o p q a b.size)]) ∧ (T = if chk k o p q a b.size = 0 then txt (encB k.toNat o p q a b) else ⟨#[]⟩) ∧ Below w.heap.size w w') := fun w => by
    by_cases hc : chk k o p q a b.size = 0
    · obtain ⟨kn, rfl⟩ : ∃ n : Nat, k = (n : Int) := ⟨k.toNat, by have := (chk_size hc).2; omega⟩
      refine (rencode_ok kn o p q a b w hc ho hp hq ha).mono ?_
      rintro e w' ⟨rfl, hb⟩
      exact ⟨_, by rw [hc], by rw [if_pos hc, Int.toNat_natCast], hb⟩
    · refine (rencode_bad k o p q a b w hc).mono ?_
      rintro e w' ⟨rfl, hb⟩
      exact ⟨_, rfl, by rw [if_neg hc], hb⟩
  obtain ⟨TT, hTT⟩ : ∃ T, (if chk k o p q a b.size = 0 then txt (encB k.toNat o p q a b) else ⟨#[]⟩) = T := ⟨_, rfl⟩
  rw [hTT] at kE kN
  generalize chk k o p q a b.size = c at *
  have HET := hide1 het
  unfold fra at *
  clear hTT ho hp hq ha het
  go_enter Tryd.func3, Tryd.ntmps3
  go_upto_region 1 with (fail)
  generalize hX : World.alloc w _ = X
  have HX : Hid (Below w.heap.size w X) := by rw [← hX]; exact below1 _
  have h0 := hX ▸ heap_alloc_new w _
  obtain ⟨g, hg⟩ : ∃ g, w.heap.size = g := ⟨_, rfl⟩
  rw [hg] at h0 ⊢
  clear hg hX
  obtain ⟨c0, c1, c2, c3, c4, c5, l0⟩ := box6 h0
  have H0 := hide1 h0
  clear h0
  by_cases hb : b.size ≤ 66000
  rotate_left
  · have hb' : decide (66000 < b.size) = true := decide_eq_true (by omega)
    have hb2 : 66000 < b.size := by omega
    clear hb
    go_wp2_with (go_at_call 5; refine (kA _).out.mono ?_; rintro e w1 ⟨rfl, hb1⟩)
    go_ret
    exact ⟨rfl, HX.out.trans (hb1.mono HX.out.size)⟩
  have hb' : decide (66000 < b.size) = false := decide_eq_false (by omega)
  have hb2 : ¬ 66000 < b.size := by omega
  clear hb
  go_wp2_with fail
  refine (kO _).out.mono ?_
  rintro e w1 ⟨rfl, hb1⟩
  have B1 := hide1 (HX.out.trans (hb1.mono HX.out.size))
  have R1 := hide1 ((hb1.block g l0).trans H0.out)
  clear hb1 c0 c1 c2 c3 c4 c5 l0 H0 HX hb' hb2
  go_wp2_with fail
  refine (kE _).out.mono ?_
  rintro e w2 ⟨T, v, rfl, rfl, he2, hb2⟩
  have B2 := hide1 (B1.out.trans (hb2.mono B1.out.size))
  have R2 := hide1 ((hb2.block g (lt_heap R1.out)).trans R1.out)
  have E2 := hide1 he2
  obtain ⟨c0, c1, c2, c3, c4, c5, l0⟩ := box6 R2.out
  clear kE hb2 he2 B1 R1
  go_wp2_with fail
  refine (kN _).out.mono ?_
  rintro e w3 ⟨T', rfl, rfl, hb3⟩
  have B3 := hide1 (B2.out.trans (hb3.mono B2.out.size))
  have R3 := hide1 ((hb3.block g (lt_heap R2.out)).trans R2.out)
  have E3 := hide1 (E2.out.below hb3)
  clear kN hb3 B2 R2 E2 c0 c1 c2 c3 c4 c5 l0
  obtain ⟨c0, c1, c2, c3, c4, c5, l0⟩ := box6 R3.out
  go_upto_region 5 with (fail)
  have kK : ∀ P : Bw w3, Hid (Calls Tryd.prog 11 #[v] P.w fun x w' => x = .returned (.int .i64 c) ∧ Below P.w.heap.size P.w w') := fun P => F.code_any P.w c v (HET.out.below (B3.out.trans (P.h.mono B3.out.size)) HET.out.pos) (E3.out.below P.h)
  have hne : Nonempty (Bw w3) := ⟨⟨w3, Below.refl _ _⟩⟩
  have c0 := bw_cell c0
  have c1 := bw_cell c1
  have c2 := bw_cell c2
  have c3 := bw_cell c3
  have c4 := bw_cell c4
  have c5 := bw_cell c5
  refine wp_region_quiet_bw mx (by kernel_rfl) ?_
  repeat go_big_quiet_step (first | (go_at_call 7; exact bw_of (kO _).out) | (go_at_call 9; exact bw_of (kC _).out) | (go_at_call 10; exact bw_of (kR _).out) | (go_at_call 11; exact bw_of (kK _).out) | (go_at_call 5; exact bw_of (kA _).out))
  rintro w' ⟨P, rfl⟩
  go_wp2
  go_ret
  exact ⟨rfl, B3.out.trans (P.h.mono B3.out.size)⟩
end Go.Proofs.YtcgpokbijaioiaaDoor
