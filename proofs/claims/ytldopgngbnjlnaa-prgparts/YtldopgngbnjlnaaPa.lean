/- The walk of PrgParts. -/
import Derived.Test.YtldopgngbnjlnaaRi
import Derived.Test.YtldopgngbnjlnaaRw
import Derived.Test.YtldopgngbnjlnaaVL
namespace Go.Proofs.Ytldopgngbnjlnaa
open Go.RowKit
set_option maxRecDepth 100000
attribute [local go_sem] not_any

theorem wL_len (kl : List Nat) (x : Nat) (f n : Int) : (wL kl x f n).length ≤ 65536 := by
  by_cases h : wC f n = 0
  · by_cases hh : f < 0 ∨ n < 0 ∨ 4096 < n ∨ 134217728 < f
    · rw [wC_no hh] at h; omega
    · rw [wL, if_pos h, wrd_length]; omega
  · rw [wL, if_neg h]; exact Nat.zero_le _
theorem tL_len (kl : List Nat) (x : Nat) (f n : Int) : (tL kl x f n).length ≤ 4194304 := by
  by_cases h : tC f n = 0
  · by_cases hh : f < 0 ∨ n < 0 ∨ 65536 < n ∨ 1073741824 < f
    · rw [tC_no hh] at h; omega
    · rw [tL, if_pos h, bts_length]; omega
  · rw [tL, if_neg h]; exact Nat.zero_le _

theorem parts_else (W : World) (kl : List Nat) (x : Nat) (f n : Int) (h1 : 500 < n) (h2 : n ≤ 65536) :
    Calls Try.prog 3 #[arr8 kl, .int .u32 (x : Int), .int .i64 f, .int .i64 n] W fun e w' => e = .returned (.bool true) ∧ Below W.heap.size W w' := by
  have hB := fun (o : Obj) => hide1 ((Below.refl W.heap.size W).alloc (Nat.le_refl _) o)
  unfold arr8
  go_enter Try.func3, Try.ntmps3
  go_wp2_with (go_at_call 9; refine (awake_any _).mono ?_; rintro e w' ⟨rfl, rfl⟩)
  go_ret
  exact ⟨rfl, (hB _).out⟩

set_option maxHeartbeats 8000000 in
theorem parts_some (W : World) (kl : List Nat) (x : Nat) (f n : Int) (hk : kl.length = 32) (bk : Lt 256 kl) (hx : x < 4294967296) (hn : ¬ (500 < n ∧ n ≤ 65536)) :
    Calls Try.prog 3 #[arr8 kl, .int .u32 (x : Int), .int .i64 f, .int .i64 n] W fun e w' => e = .returned (.bool true) ∧ Below W.heap.size W w' := by
  have k10 := fun w => hide1 (bytes_any kl x f n w hk bk hx)
  have k11 := fun w => hide1 (rbytes_any kl x f n w hk bk hx)
  have k12 := fun w => hide1 (words_any kl x f n w hk bk hx)
  have k13 := fun w => hide1 (rwords_any kl x f n w hk bk hx)
  have k14 := fun w => hide1 (bits_any kl x f n w hk bk hx)
  have k15 := fun w => hide1 (rbits_any kl x f n w hk bk hx)
  have HwL := hide1 (wL_len kl x f n)
  have HtL := hide1 (tL_len kl x f n)
  have Hz : Hid ((u8s kl).toArray.size = 32) := by show _ = _; simp [u8s, hk]
  generalize bT kl x f n = tb at *
  generalize bC f n = be at *
  generalize wL kl x f n = ws at *
  generalize wC f n = we at *
  generalize tL kl x f n = bl at *
  generalize tC f n = te at *
  unfold arr8 at k10 k11 k12 k13 k14 k15 ⊢
  have hcase : (decide (500 < n) = false) ∨ (500 < n ∧ decide (n ≤ 65536) = false) := by
    by_cases h : 500 < n
    · exact .inr ⟨h, by rw [decide_eq_false_iff_not]; omega⟩
    · exact .inl (by rw [decide_eq_false_iff_not]; exact h)
  clear hk bk hx hn
  rcases hcase with hc | ⟨hc, hc2⟩
  all_goals
    go_enter Try.func3, Try.ntmps3
    go_upto_region 3 with (fail)
    generalize hX : World.alloc W _ = X
    have x0 : X.heap[W.heap.size]? = some (row8 23 kl) := by rw [← hX]; exact heap_alloc_new _ _
    have xb : Below W.heap.size W X := by rw [← hX]; exact (Below.refl _ _).alloc (Nat.le_refl _) _
    have X0 := hide1 x0
    have XB := hide1 xb
    clear hX x0 xb
    go_wp2_with (first | (refine wpList_load_row rfl 23 (.tmp 4) rfl W.heap.size rfl 23 (u8s kl).toArray (0, 0) _ X0.out Try.underlying23 rfl (by rw [Hz.out]; kernel_rfl) ?_) | fail)
    go_at_call 10
    refine (k10 _).out.mono ?_
    rintro e w1 ⟨rfl, hb⟩
    have X1 := hide1 ((hb.block _ (lt_heap X0.out)).trans X0.out)
    have B1 := hide1 (XB.out.trans (hb.mono XB.out.size))
    clear hb k10 X0 XB
    go_wp2_with (first | (refine wpList_load_row rfl 23 (.tmp 4) rfl W.heap.size rfl 23 (u8s kl).toArray (0, 0) _ X1.out Try.underlying23 rfl (by rw [Hz.out]; kernel_rfl) ?_) | fail)
    go_at_call 11
    refine (k11 _).out.mono ?_
    rintro e w2 ⟨rfl, hb⟩
    have X2 := hide1 ((hb.block _ (lt_heap X1.out)).trans X1.out)
    have B2 := hide1 (B1.out.trans (hb.mono B1.out.size))
    clear hb k11 X1 B1
    go_wp2_with (first | (refine wpList_load_row rfl 23 (.tmp 4) rfl W.heap.size rfl 23 (u8s kl).toArray (0, 0) _ X2.out Try.underlying23 rfl (by rw [Hz.out]; kernel_rfl) ?_) | fail)
    go_at_call 12
    refine (k12 _).out.mono ?_
    rintro e w3 ⟨aa, ma, ca, rfl, hna, _, hb⟩
    have X3 := hide1 ((hb.block _ (lt_heap X2.out)).trans X2.out)
    have B3 := hide1 (B2.out.trans (hb.mono B2.out.size))
    have NA3 := hide1 hna
    clear hb hna k12 X2 B2
    go_wp2_with (first | (refine wpList_load_row rfl 23 (.tmp 4) rfl W.heap.size rfl 23 (u8s kl).toArray (0, 0) _ X3.out Try.underlying23 rfl (by rw [Hz.out]; kernel_rfl) ?_) | fail)
    go_at_call 13
    refine (k13 _).out.mono ?_
    rintro e w4 ⟨ab, mb, cb, rfl, hnb, _, hb⟩
    have X4 := hide1 ((hb.block _ (lt_heap X3.out)).trans X3.out)
    have B4 := hide1 (B3.out.trans (hb.mono B3.out.size))
    have NA4 := hide1 (NA3.out.below hb (Nat.le_refl _))
    have NB4 := hide1 hnb
    clear hb hnb k13 X3 B3 NA3
    obtain rfl : mb = ma := by rw [← NA4.out.len, ← NB4.out.len]
    go_wp2_with (first | (refine wpList_load_row rfl 23 (.tmp 4) rfl W.heap.size rfl 23 (u8s kl).toArray (0, 0) _ X4.out Try.underlying23 rfl (by rw [Hz.out]; kernel_rfl) ?_) | fail)
    go_at_call 14
    refine (k14 _).out.mono ?_
    rintro e w5 ⟨av, mv, rfl, hv, hb⟩
    have X5 := hide1 ((hb.block _ (lt_heap X4.out)).trans X4.out)
    have B5 := hide1 (B4.out.trans (hb.mono B4.out.size))
    have NA5 := hide1 (NA4.out.below hb (Nat.le_refl _))
    have NB5 := hide1 (NB4.out.below hb (Nat.le_refl _))
    have HV5 := hide1 hv
    clear hb hv k14 X4 B4 NA4 NB4
    go_upto_region 8 with (fail)
    generalize hY : World.alloc w5 _ = Y
    have y0 : Y.heap[w5.heap.size]? = some (.cells #[.int .i64 (mv : Int), .slice av (V.need mv 64) (V.need mv 64)] 37 (0, 0)) := by rw [← hY]; exact heap_alloc_new _ _
    have yb : Below w5.heap.size w5 Y := by rw [← hY]; exact (Below.refl _ _).alloc (Nat.le_refl _) _
    have Y0 := hide1 y0
    have X6 := hide1 ((yb.block _ (lt_heap X5.out)).trans X5.out)
    have B6 := hide1 (B5.out.trans (yb.mono B5.out.size))
    have NA6 := hide1 (NA5.out.below yb (Nat.le_refl _))
    have NB6 := hide1 (NB5.out.below yb (Nat.le_refl _))
    have HV6 := hide1 (HV5.out.below yb (Nat.le_refl _))
    obtain ⟨gv, hgv⟩ : ∃ g, g = w5.heap.size := ⟨_, rfl⟩
    rw [← hgv] at Y0 ⊢
    clear hY y0 yb hgv X5 B5 NA5 NB5 HV5
    go_wp2_with (first | (refine wpList_load_row rfl 23 (.tmp 4) rfl W.heap.size rfl 23 (u8s kl).toArray (0, 0) _ X6.out Try.underlying23 rfl (by rw [Hz.out]; kernel_rfl) ?_) | fail)
    go_at_call 15
    refine (k15 _).out.mono ?_
    rintro e w7 ⟨al, ml, cl, rfl, hl, hb⟩
    have Y7 := hide1 ((hb.block _ (lt_heap Y0.out)).trans Y0.out)
    have B7 := hide1 (B6.out.trans (hb.mono B6.out.size))
    have NA7 := hide1 (NA6.out.below hb (Nat.le_refl _))
    have NB7 := hide1 (NB6.out.below hb (Nat.le_refl _))
    have HV7 := hide1 (HV6.out.below hb (Nat.le_refl _))
    have HL7 := hide1 hl
    clear hb hl k15 X6 Y0 B6 NA6 NB6 HV6
    have kN := hide1 (V.nums_any w7 mb ca cb aa ab ws NA7.out NB7.out (by rw [← NA7.out.len]; exact HwL.out))
    clear NA7 NB7
    go_wp2_with fail
    go_at_call 16
    refine kN.out.mono ?_
    rintro e w8 ⟨rfl, q, hq⟩
    have hb8 : Below w7.heap.size w7 w8 := by rw [hq]; exact below_drewN' (Below.refl _ _) q
    have y8 := (hb8.block _ (lt_heap Y7.out)).trans Y7.out
    have B8 := hide1 (B7.out.trans (hb8.mono B7.out.size))
    have HV8 := hide1 (HV7.out.below hb8 (Nat.le_refl _))
    have HL8 := hide1 (HL7.out.below hb8 (Nat.le_refl _))
    obtain ⟨c0, c1, f0, f1, l0⟩ := V.box2 y8
    clear hq hb8 y8 kN Y7 B7 HV7 HL7
    have kO := hide1 (V.bools_any _ w8 mv av bl HV8.out (by rw [← HV8.out.len]; exact HtL.out))
    go_wp2_with fail
    go_at_call 18
    refine kO.out.mono ?_
    rintro e w9 ⟨ao, rfl, ho, hb9⟩
    have B9 := hide1 (B8.out.trans (hb9.mono B8.out.size))
    have HL9 := HL8.out.below hb9 (Nat.le_refl _)
    have hm1 : mv ≤ 4194304 := by rw [← HV8.out.len]; exact HtL.out
    have hm2 : ml ≤ 4194304 := by rw [← HL9.len]; exact HtL.out
    have kS := V.same_any w9 mv ml mv cl ao al bl bl ho HL9 hm1 hm2
    rw [decide_eq_true rfl] at kS
    have KS := hide1 kS
    clear hb9 ho HL9 hm1 hm2 kS kO HV8 HL8 B8
    go_wp2_with fail
    go_at_call 17
    refine KS.out.mono ?_
    rintro e wa ⟨rfl, q, hq⟩
    have BA : Hid (Below W.heap.size W wa) := by rw [hq]; exact below_drewN' B9.out q
    clear hq KS B9
    go_wp2_with (go_at_call 9; refine (awake_any _).mono ?_; rintro e w' ⟨rfl, rfl⟩)
    go_ret
    exact ⟨rfl, BA.out⟩

theorem parts_all (W : World) (kl : List Nat) (x : Nat) (f n : Int) (hk : kl.length = 32) (bk : Lt 256 kl) (hx : x < 4294967296) :
    Calls Try.prog 3 #[arr8 kl, .int .u32 (x : Int), .int .i64 f, .int .i64 n] W fun e w' => e = .returned (.bool true) ∧ Below W.heap.size W w' := by
  by_cases h : 500 < n ∧ n ≤ 65536
  · exact parts_else W kl x f n h.1 h.2
  · exact parts_some W kl x f n hk bk hx h
end Go.Proofs.Ytldopgngbnjlnaa
