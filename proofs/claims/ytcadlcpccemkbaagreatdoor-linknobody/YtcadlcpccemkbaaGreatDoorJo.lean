/- No end: nil, and what no call made. -/
import Derived.Test.YtcadlcpccemkbaaGreatDoorJy
import Derived.Test.YtcadlcpccemkbaaGreatDoorFd
namespace Go.Proofs.YtcadlcpccemkbaaGreatDoor
open Go.RowKit
set_option maxRecDepth 100000
attribute [local go_sem] not_any

def Nob (w : World) (p : Value) : Prop := p = .pointer none ∨ ∃ s, p = .pointer (some ⟨s, 0, none⟩) ∧ w.heap[s]? = some (.cells #[.int .u32 0, .int .u32 0, .bool false, .bool false, .int .u32 0, .slice none 0 0, .int .u32 0, .map none, .slice none 0 0] 56 (0, 0))
theorem Nob.below {C : Nat} {w w' : World} {p : Value} (h : Nob w p) (hb : Below C w w') (hC : w.heap.size ≤ C) : Nob w' p := by
  rcases h with h | ⟨s, h, hr⟩
  · exact .inl h
  · exact .inr ⟨s, h, (hb.block s (by have := lt_heap hr; omega)).trans hr⟩
theorem no_made {w : World} {p : Value} (h : Nob w p) : Calls Tryz.prog 34 #[p] w fun e w' => e = .returned (.bool false) ∧ w' = w := by
  rcases h with rfl | ⟨s, rfl, hr⟩
  · go_enter Tryz.func34, Tryz.ntmps34
    go_wp2
    go_ret
    exact ⟨rfl, rfl⟩
  · obtain ⟨c0, _, _, _, _⟩ := boxS hr
    clear hr
    go_enter Tryz.func34, Tryz.ntmps34
    go_wp2
    go_ret
    exact ⟨rfl, rfl⟩
theorem no_own {w : World} {p : Value} (h : Nob w p) : Calls Tryz.prog 14 #[p] w fun e w' => e = .returned (.int .u32 0) ∧ w' = w := by
  have k := hide1 (no_made h)
  clear h
  go_enter Tryz.func14, Tryz.ntmps14
  go_wp2_with (go_at_call 34; refine k.out.mono ?_; rintro e w1 ⟨rfl, rfl⟩)
  go_ret
  exact ⟨rfl, rfl⟩
theorem no_peer {w : World} {p : Value} (h : Nob w p) : Calls Tryz.prog 15 #[p] w fun e w' => e = .returned (.int .u32 0) ∧ w' = w := by
  have k := hide1 (no_made h)
  clear h
  go_enter Tryz.func15, Tryz.ntmps15
  go_wp2_with (go_at_call 34; refine k.out.mono ?_; rintro e w1 ⟨rfl, rfl⟩)
  go_ret
  exact ⟨rfl, rfl⟩
theorem no_ready {w : World} {p : Value} (h : Nob w p) : Calls Tryz.prog 16 #[p] w fun e w' => e = .returned (.bool false) ∧ w' = w := by
  have k := hide1 (no_made h)
  clear h
  go_enter Tryz.func16, Tryz.ntmps16
  go_wp2_with (go_at_call 34; refine k.out.mono ?_; rintro e w1 ⟨rfl, rfl⟩)
  go_ret
  exact ⟨rfl, rfl⟩
theorem no_room {w : World} {p : Value} (h : Nob w p) : Calls Tryz.prog 17 #[p] w fun e w' => e = .returned (.int .i64 0) ∧ w' = w := by
  have k := hide1 (no_ready h)
  clear h
  go_enter Tryz.func17, Tryz.ntmps17
  go_wp2_with (go_at_call 16; refine k.out.mono ?_; rintro e w1 ⟨rfl, rfl⟩)
  go_ret
  exact ⟨rfl, rfl⟩
theorem no_wait {w : World} {p : Value} (h : Nob w p) : Calls Tryz.prog 18 #[p] w fun e w' => e = .returned (.int .i64 0) ∧ w' = w := by
  have k := hide1 (no_made h)
  clear h
  go_enter Tryz.func18, Tryz.ntmps18
  go_wp2_with (go_at_call 34; refine k.out.mono ?_; rintro e w1 ⟨rfl, rfl⟩)
  go_ret
  exact ⟨rfl, rfl⟩
theorem no_flush {w : World} {p : Value} (h : Nob w p) : Calls Tryz.prog 12 #[p] w fun e w' => e = .returned (.slice none 0 0) ∧ w' = w := by
  have k := hide1 (no_made h)
  clear h
  go_enter Tryz.func12, Tryz.ntmps12
  go_wp2_with (go_at_call 34; refine k.out.mono ?_; rintro e w1 ⟨rfl, rfl⟩)
  go_ret
  exact ⟨rfl, rfl⟩
theorem no_tick {w : World} {p : Value} (h : Nob w p) : Calls Tryz.prog 13 #[p] w fun e w' => e = .returned (.slice none 0 0) ∧ w' = w := by
  have k := hide1 (no_made h)
  clear h
  go_enter Tryz.func13, Tryz.ntmps13
  go_wp2_with (go_at_call 34; refine k.out.mono ?_; rintro e w1 ⟨rfl, rfl⟩)
  go_ret
  exact ⟨rfl, rfl⟩
theorem no_check {w : World} {p : Value} (h : Nob w p) (b : ByteArray) : Calls Tryz.prog 38 #[p, .string b] w fun e w' => e = .returned (.int .i64 3) ∧ w' = w := by
  have k := hide1 (no_made h)
  clear h
  go_enter Tryz.func38, Tryz.ntmps38
  go_wp2_with (go_at_call 34; refine k.out.mono ?_; rintro e w1 ⟨rfl, rfl⟩)
  go_ret
  exact ⟨rfl, rfl⟩
theorem Er.isE {w : World} {c : Int} {v : Value} (h : Er w c v) : F.IsE w c v := by
  rcases h with ⟨h1, h2⟩ | ⟨h1, p, h2, h3⟩
  · exact .inl ⟨h1, h2⟩
  · exact .inr ⟨by simp [h1], p, h2, _, h3⟩
theorem no_send {w : World} {p : Value} (h : Nob w p) (b : ByteArray) : Calls Tryz.prog 11 #[p, .string b] w fun e w' => ∃ z, e = .returned z ∧ F.IsE w' 3 z ∧ Below w.heap.size w w' := by
  have k := hide1 (no_check h b)
  have kN := fun w => hide1 (fnew_any 3 w)
  unfold tLINK at kN
  clear h
  go_enter Tryz.func11, Tryz.ntmps11
  go_wp2_with fail
  refine k.out.mono ?_
  rintro e w1 ⟨rfl, hw1⟩
  obtain rfl := hw1.symm
  go_wp2_with (go_at_call 19; refine (kN _).out.mono ?_; rintro e w1 ⟨z, rfl, hE, hb, _⟩)
  go_ret
  exact ⟨_, rfl, hE.isE, hb⟩
set_option maxHeartbeats 1000000 in
theorem no_recv {w : World} {p : Value} (h : Nob w p) (b : ByteArray) : Calls Tryz.prog 10 #[p, .string b] w fun e w' => ∃ z, e = .returned (.tuple #[.agg #[.slice none 0 0, .bool false], z]) ∧ F.IsE w' 3 z ∧ Below w.heap.size w w' := by
  have k := hide1 (no_made (h.below (below1 (.cells #[.slice none 0 0, .bool false] 59)) (Nat.le_refl _)))
  have kN := fun w => hide1 (fnew_any 3 w)
  unfold tLINK at kN
  clear h
  go_enter Tryz.func10, Tryz.ntmps10
  go_upto_region 1 with (fail)
  have r0 := hide1 (heap_alloc_new w (.cells #[.slice none 0 0, .bool false] 59))
  have b0 : Hid (Below w.heap.size w (w.alloc (.cells #[.slice none 0 0, .bool false] 59))) := below1 _
  generalize w.alloc (.cells #[.slice none 0 0, .bool false] 59) = W0 at r0 b0 k ⊢
  obtain ⟨g, hg⟩ : ∃ g, w.heap.size = g := ⟨_, rfl⟩
  have HG := hide1 hg
  rw [hg] at r0 ⊢
  clear hg
  go_wp2_with fail
  refine k.out.mono ?_
  rintro e w1 ⟨rfl, hw1⟩
  obtain rfl := hw1.symm
  clear k
  go_wp2_with fail
  refine (kN _).out.mono ?_
  rintro e W1 ⟨z, rfl, hE, hb, _⟩
  have r1 : Hid (W1.heap[g]? = some (.cells #[.slice none 0 0, .bool false] 59 (0, 0))) := (hb.block g (lt_heap r0.out)).trans r0.out
  have b1 : Hid (Below w.heap.size w W1) := b0.out.trans (hb.mono b0.out.size)
  have HE := hide1 hE
  clear hb hE kN r0 b0
  go_wp2_with (refine wpList_store_row rfl 59 (.tmp 4) (.tmp 13) rfl g #[.slice none 0 0, .bool false] rfl rfl 59 _ r1.out rfl (by kernel_rfl) (by kernel_rfl) ?_)
  refine ret_g2 Tryz.results10 g _ _ _ rfl rfl (setRow_heap W1 g _ _ _ _ r1.out) rfl ⟨_, rfl, ?_, below_setRow b1.out (by have := HG.out; omega) _⟩
  have h1 := HE.out.isE
  rcases h1 with h1 | ⟨hc, q, hq, t, hr⟩
  · exact .inl h1
  · refine .inr ⟨hc, q, hq, t, (setRow_other W1 g q _ (fun e => ?_)).trans hr⟩
    rw [e, r1.out] at hr
    cases hr

end Go.Proofs.YtcadlcpccemkbaaGreatDoor
