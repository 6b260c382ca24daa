/- FrameDecodes: which frame all bytes are, or what is wrong with them. -/
import Derived.Test.YtcgpokbijaioiaaDoorXo
import Derived.Test.YtcgpokbijaioiaaDoorXg
import Derived.Test.YtcgpokbijaioiaaDoorFx
namespace Go.Proofs.YtcgpokbijaioiaaDoor
open Go.RowKit
set_option maxRecDepth 100000
attribute [local go_sem] not_any mf_any

/- the error v tells the number c, from the world W on -/
def Told (W : World) (c : Int) (v : Value) : Prop := ∀ W', Below W.heap.size W W' → F.Et W' → Calls Tryd.prog 11 #[v] W' fun x w' => x = .returned (.int .i64 c) ∧ Below W'.heap.size W' w'
theorem told_nil (W : World) : Told W 0 .nilIface := fun W' _ _ => (F.code_nil W').mono fun _ _ ⟨h1, h2⟩ => ⟨h1, by rw [h2]; exact Below.refl _ _⟩
theorem told_root {W : World} {b : Nat} {c : Int} {f : ByteArray} (h : W.heap[b]? = some (flt c f)) (hc : c ≠ 0) : Told W c (.iface 74 (.pointer (some ⟨b, 0, none⟩))) := fun W' hB he =>
  F.code_root b c W' he ⟨f, (hB.block _ (lt_heap h)).trans h⟩ (by simpa using hc)
theorem told_wrap {W : World} {m p : Nat} {c : Int} {t f : ByteArray} (h1 : W.heap[m]? = some (wrp t p)) (h2 : W.heap[p]? = some (flt c f)) (hc : c ≠ 0) : Told W c (.iface 74 (.pointer (some ⟨m, 0, none⟩))) := fun W' hB he =>
  F.code_wrap m p c t f W' he (by simpa using hc) ((hB.block _ (lt_heap h1)).trans h1) ((hB.block _ (lt_heap h2)).trans h2)
theorem Told.below {W W' : World} {c : Int} {v : Value} (h : Told W c v) (hB : Below W.heap.size W W') : Told W' c v := fun W2 hB2 he => h W2 (hB.trans (hB2.mono hB.size)) he

theorem both_decode (s : ByteArray) (hs : s.size ≤ 66000) : ∃ (k o p q a : Int) (b : ByteArray) (c : Int),
    (∀ w, Calls Tryd.prog 12 #[.string s] w fun e w' => ∃ v, e = .returned (.tuple #[fra k o p q a b, v]) ∧ Told w' c v ∧ Below w.heap.size w w') ∧
    (∀ w, Calls Tryd.prog 13 #[.string s] w fun e w' => e = .returned (.tuple #[fra k o p q a b, .int .i64 c]) ∧ Below w.heap.size w w') := by
  by_cases h17 : 17 ≤ s.size
  · by_cases hc : decC s = 0
    · refine ⟨_, _, _, _, _, _, 0, fun w => (decode_ok s w (by omega) h17 hc).mono ?_, fun w => rdecode_ok s w hs h17 hc⟩
      rintro e w' ⟨rfl, hb⟩
      exact ⟨_, rfl, told_nil _, hb⟩
    · refine ⟨_, _, _, _, _, _, decC s, fun w => (decode_bad s w (by omega) h17 hc).mono ?_, fun w => rdecode_bad s w hs h17 hc⟩
      rintro e w' ⟨m, rfl, hm, _, hb⟩
      exact ⟨_, rfl, told_root hm hc, hb⟩
  · refine ⟨_, _, _, _, _, _, 12, fun w => (decode_short s w (by omega) (by omega)).mono ?_, fun w => rdecode_short s w (by omega)⟩
    rintro e w' ⟨m, p, f, rfl, hm, hp, _, hb⟩
    exact ⟨_, rfl, told_wrap hm hp (by decide), hb⟩

set_option maxHeartbeats 2000000 in
theorem decodes_all (w : World) (s : ByteArray) (het : F.Et w) :
    Calls Tryd.prog 4 #[.string s] w fun e w' => e = .returned (.bool true) ∧ Below w.heap.size w w' := by
  have mx := mixed
  have kA := fun w => hide1 (awake_any w)
  have HET := hide1 het
  clear het
  by_cases hs : s.size ≤ 66000
  rotate_left
  · have hs' : decide (66000 < s.size) = true := decide_eq_true (by omega)
    have hs2 : 66000 < s.size := by omega
    clear hs
    go_enter Tryd.func4, Tryd.ntmps4
    go_wp2_with (go_at_call 5; refine (kA _).out.mono ?_; rintro e w1 ⟨rfl, hb1⟩)
    go_ret
    exact ⟨rfl, hb1⟩
  obtain ⟨k, o, p, q, a, b, c, hD, hR⟩ := both_decode s hs
  have kD := fun w => hide1 (hD w)
  have kR := fun w => hide1 (hR w)
  have kT := fun w => hide1 (told_any k o p q a b w)
  have hs' : decide (66000 < s.size) = false := decide_eq_false (by omega)
  have hs2 : ¬ 66000 < s.size := by omega
  clear hD hR hs
  unfold fra at *
  go_enter Tryd.func4, Tryd.ntmps4
  go_wp2_with fail
  refine (kD _).out.mono ?_
  rintro e w1 ⟨v, rfl, ht, hb1⟩
  have T1 := hide1 ht
  have B1 := hide1 hb1
  clear kD ht hb1
  go_upto_region 4 with (fail)
  generalize hX : World.alloc w1 _ = X
  have F2 := hide1 (hX ▸ heap_alloc_new w1 _)
  have T2 : Hid (Told X c v) := by rw [← hX]; exact T1.out.below (below1 _)
  have B2 : Hid (Below w.heap.size w X) := by rw [← hX]; exact B1.out.alloc B1.out.size _
  obtain ⟨b3, hb3⟩ : ∃ g, w1.heap.size = g := ⟨_, rfl⟩
  rw [hb3] at F2 ⊢
  clear hX hb3 T1 B1
  go_wp2_with fail
  refine (kR _).out.mono ?_
  rintro e w3 ⟨rfl, hb3⟩
  have F3 := hide1 ((hb3.block b3 (lt_heap F2.out)).trans F2.out)
  have T3 := hide1 (T2.out.below hb3)
  have B3 := hide1 (B2.out.trans (hb3.mono B2.out.size))
  clear kR hb3 F2 T2 B2
  go_upto_region 5 with (fail)
  generalize hY : World.alloc w3 _ = Y
  have F4 : Hid (Y.heap[b3]? = some (.cells #[.int .i64 k, .int .u32 o, .int .u32 p, .int .u32 q, .int .u32 a, .string b] 30 (0, 0))) := by rw [← hY]; exact (Below.heap_alloc _ _ _ (lt_heap F3.out)).trans F3.out
  have G4 := hide1 (hY ▸ heap_alloc_new w3 _)
  have T4 : Hid (Told Y c v) := by rw [← hY]; exact T3.out.below (below1 _)
  have B4 : Hid (Below w.heap.size w Y) := by rw [← hY]; exact B3.out.alloc B3.out.size _
  obtain ⟨b5, hb5⟩ : ∃ g, w3.heap.size = g := ⟨_, rfl⟩
  rw [hb5] at G4 ⊢
  clear hY hb5 F3 T3 B3
  obtain ⟨c0, c1, c2, c3, c4, c5, l0⟩ := box6 F4.out
  obtain ⟨d0, d1, d2, d3, d4, d5, lb⟩ := box6 G4.out
  have kK : ∀ P : Bw Y, Hid (Calls Tryd.prog 11 #[v] P.w fun x w' => x = .returned (.int .i64 c) ∧ Below P.w.heap.size P.w w') := fun P => T4.out P.w P.h (HET.out.below (B4.out.trans (P.h.mono B4.out.size)) HET.out.pos)
  have hEq := eq_same k o p q a b
  have hEG : Tryd.prog.eqGuardType Tryd.prog.depth 24 = false := by kernel_rfl
  have hne : Nonempty (Bw Y) := ⟨⟨Y, Below.refl _ _⟩⟩
  have c0 := bw_cell c0
  have c1 := bw_cell c1
  have c2 := bw_cell c2
  have c3 := bw_cell c3
  have c4 := bw_cell c4
  have c5 := bw_cell c5
  have d0 := bw_cell d0
  have d1 := bw_cell d1
  have d2 := bw_cell d2
  have d3 := bw_cell d3
  have d4 := bw_cell d4
  have d5 := bw_cell d5
  refine wp_region_quiet_bw mx (by kernel_rfl) ?_
  repeat go_big_quiet_step (first | (go_at_call 14; exact bw_of (kT _).out) | (go_at_call 11; exact bw_of (kK _).out) | (go_at_call 5; exact bw_of (kA _).out))
  rintro w' ⟨P, rfl⟩
  go_wp2
  go_ret
  exact ⟨rfl, B4.out.trans (P.h.mono B4.out.size)⟩
end Go.Proofs.YtcgpokbijaioiaaDoor
