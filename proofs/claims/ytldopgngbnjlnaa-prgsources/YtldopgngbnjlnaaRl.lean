/- Below: the document's. -/
import Derived.Test.YtldopgngbnjlnaaRw
import Derived.Test.YtldopgngbnjlnaaSo
namespace Go.Proofs.Ytldopgngbnjlnaa
open Go.RowKit
set_option maxRecDepth 100000
attribute [local go_sem] not_any

theorem results_tmp3 {fn : Func} {t u v : Tmp} (h : fn.results = #[.tmp t, .tmp u, .tmp v]) (tmps : Array Value) (P : Program) (w : World) :
    (results fn tmps).run P w = .ok (.tuple #[tmps.getD t undef, tmps.getD u undef, tmps.getD v undef]) w := by
  simp [results, h]

def RPost (w : World) (r : Nat × Nat × Int) (e : Ending) (w' : World) : Prop :=
  e = .returned (.tuple #[.int .u64 (r.1 : Int), .int .i64 (r.2.1 : Int), .int .i64 r.2.2]) ∧ Below w.heap.size w w'

theorem rbelow_zero (kl : List Nat) (x t : Nat) (w : World) : Calls Try.prog 24 #[arr8 kl, .int .u32 (x : Int), .int .i64 (t : Int), .int .u64 0] w (RPost w (0, t, 1)) := by
  have hB := fun (o : Obj) => hide1 ((Below.refl w.heap.size w).alloc (Nat.le_refl _) o)
  unfold arr8
  go_enter Try.func24, Try.ntmps24
  go_wp2
  refine bodyPost_ret (results_tmp3 rfl _ _ _) rfl ?_
  exact ⟨rfl, (hB _).out⟩

set_option maxHeartbeats 4000000 in
theorem rbelow_any (kl : List Nat) (x n t : Nat) (w : World) (hk : kl.length = 32) (bk : Lt 256 kl) (hx : x < 4294967296) (hn : 0 < n) (hn2 : n < 18446744073709551616) (ht : t + 64 ≤ 134217728) :
    Calls Try.prog 24 #[arr8 kl, .int .u32 (x : Int), .int .i64 (t : Int), .int .u64 (n : Int)] w (RPost w (siftP kl x n 64 t)) := by
  have kc := fun w => hide1 (rcut_any n w hn2)
  have HWd : Hid (∀ (i : Nat) (w' : World), i < 64 → Calls Try.prog 13 #[.agg (u8s kl).toArray, .int .u32 (x : Int), .int .i64 ((t + i : Nat) : Int), .int .i64 1] w' (WPost w' (wrd kl x (t + i) 1) 0)) :=
    fun i w' hi => rwords_yes kl x (t + i) 1 w' hk bk hx (by omega) (by omega)
  have HWr : Shy (∀ j, (wrd kl x j 1)[0]? = some (wd kl x j) ∧ (wrd kl x j 1).length = 1) := ⟨fun j => ⟨rfl, rfl⟩⟩
  have HY : Hid (∀ k t, (cutN n = 0 ∨ wd kl x t < cutN n) → siftP kl x n (k + 1) t = (wd kl x t % n, t + 1, 0)) := fun k t h => siftP_yes h
  have HX : Hid (∀ k t, ¬ (cutN n = 0 ∨ wd kl x t < cutN n) → siftP kl x n (k + 1) t = siftP kl x n k (t + 1)) := fun k t h => siftP_no h
  have HZ : Hid (∀ t, siftP kl x n 0 t = (0, t, 24)) := fun t => rfl
  have hnz : (n : Int) ≠ 0 := by omega
  have hnz2 : ((n : Int) == 0) = false := by rw [beq_eq_false_iff_ne]; exact hnz
  obtain ⟨r, hr⟩ : ∃ r, siftP kl x n 64 t = r := ⟨_, rfl⟩
  have HR : Shy (siftP kl x n 64 t = r) := ⟨hr⟩
  have Hz : Hid ((u8s kl).toArray.size = 32) := by show _ = _; simp [u8s, hk]
  have bt : (t : Int) ≤ 134217728 := by omega
  rw [hr]
  generalize cutN n = c at *
  clear hk bk hx hn2 ht hr hn
  unfold arr8
  go_enter Try.func24, Try.ntmps24
  go_upto_region 3 with (fail)
  generalize hX : World.alloc w _ = X
  have x0 : X.heap[w.heap.size]? = some (row8 23 kl) := by rw [← hX]; exact heap_alloc_new _ _
  have xb : Below w.heap.size w X := by rw [← hX]; exact (Below.refl _ _).alloc (Nat.le_refl _) _
  have X0 := hide1 x0
  have XB := hide1 xb
  clear hX x0 xb
  go_wp2
  go_loopw [2, 11] (fun v2 v11 wr => ∃ i d : Nat, i ≤ 64 ∧ d = t + i ∧ v11 = .int .i64 i ∧ v2 = .int .i64 (d : Int) ∧ Below X.heap.size X wr ∧ Shy (siftP kl x n (64 - i) d = r)) (fun _ v11 _ => 64 - (intOf v11).toNat)
  case atStart => exact ⟨0, t, Nat.zero_le _, rfl, rfl, rfl, Below.refl _ _, HR⟩
  case round =>
    obtain ⟨i, d, hi, hd, rfl, rfl, hbe, hsf⟩ := hrel
    have HE := hide1 hbe
    by_cases hlt : i < 64
    · have hlti : (i : Int) < 64 := by omega
      have kw := fun w' => hide1 (HWd.out i w' hlt)
      rw [← hd] at kw
      have hX0 : Hid (wr.heap[w.heap.size]? = some (row8 23 kl)) := (hbe.block _ (lt_heap X0.out)).trans X0.out
      have E64 : Shy (64 - i = (64 - (i + 1)) + 1) := ⟨by omega⟩
      rw [E64.out] at hsf
      have HY' := hide1 (HY.out (64 - (i + 1)) d)
      have HX' := hide1 (HX.out (64 - (i + 1)) d)
      have HW : Shy ((wrd kl x d 1)[0]? = some (wd kl x d) ∧ (wrd kl x d 1).length = 1) := ⟨HWr.out d⟩
      generalize wrd kl x d 1 = ws at *
      generalize wd kl x d = v at *
      have Hd : Shy (d = t + i) := ⟨hd⟩
      have bd : (d : Int) ≤ 134300000 := by omega
      by_cases hcv : c = 0 ∨ v < c
      · have hsf2 : Shy ((v % n, d + 1, (0 : Int)) = r) := ⟨by rw [← HY'.out hcv]; exact hsf.out⟩
        clear hbe hsf HY' HX' hd
        rcases hcv with hc0 | hcv
        · subst hc0
          go_wp2_with (first | (refine wpList_load_row rfl 23 (.tmp 4) rfl w.heap.size rfl 23 (u8s kl).toArray (0, 0) _ hX0.out Try.underlying23 rfl (by rw [Hz.out]; kernel_rfl) ?_) | fail)
          go_at_call 13
          refine (kw _).out.mono ?_
          rintro e w1 ⟨a1, m1, c1, rfl, hnl, _, hb1⟩
          obtain ⟨ga, oa, rfl, hca⟩ := hnl.at' 0 v HW.out.1
          obtain rfl : m1 = 1 := by rw [← hnl.len, HW.out.2]
          have HB1 := hide1 (HE.out.trans (hb1.mono HE.out.size))
          have cw : w1.cell? ⟨ga, oa, none⟩ = some (.int .u64 (v : Int)) := hca
          clear hnl hca hb1 kw
          go_wp2_with fail
          go_quiet ((go_at_call 27; exact Calls.quiet_of_same (kc _).out))
          obtain ⟨Y, hY⟩ : ∃ Y, w1.drewN nq = Y := ⟨_, rfl⟩
          have cy : Y.cell? ⟨ga, oa, none⟩ = some (.int .u64 (v : Int)) := by rw [← hY]; exact cw
          have HBY : Hid (Below X.heap.size X Y) := by rw [← hY]; exact below_drewN' HB1.out _
          rw [hY]
          clear hY cw HB1
          go_wp2
          refine bodyPost_ret (results_tmp3 rfl _ _ _) rfl ?_
          rw [← hsf2.out]
          refine ⟨?_, XB.out.trans (HBY.out.mono XB.out.size)⟩
          simp
        · have hcn : ((c : Int) == 0) = false := by rw [beq_eq_false_iff_ne]; omega
          have hvc : (v : Int) < (c : Int) := by omega
          go_wp2_with (first | (refine wpList_load_row rfl 23 (.tmp 4) rfl w.heap.size rfl 23 (u8s kl).toArray (0, 0) _ hX0.out Try.underlying23 rfl (by rw [Hz.out]; kernel_rfl) ?_) | fail)
          go_at_call 13
          refine (kw _).out.mono ?_
          rintro e w1 ⟨a1, m1, c1, rfl, hnl, _, hb1⟩
          obtain ⟨ga, oa, rfl, hca⟩ := hnl.at' 0 v HW.out.1
          obtain rfl : m1 = 1 := by rw [← hnl.len, HW.out.2]
          have HB1 := hide1 (HE.out.trans (hb1.mono HE.out.size))
          have cw : w1.cell? ⟨ga, oa, none⟩ = some (.int .u64 (v : Int)) := hca
          clear hnl hca hb1 kw
          go_wp2_with fail
          go_quiet ((go_at_call 27; exact Calls.quiet_of_same (kc _).out))
          obtain ⟨Y, hY⟩ : ∃ Y, w1.drewN nq = Y := ⟨_, rfl⟩
          have cy : Y.cell? ⟨ga, oa, none⟩ = some (.int .u64 (v : Int)) := by rw [← hY]; exact cw
          have HBY : Hid (Below X.heap.size X Y) := by rw [← hY]; exact below_drewN' HB1.out _
          rw [hY]
          clear hY cw HB1
          go_wp2
          refine bodyPost_ret (results_tmp3 rfl _ _ _) rfl ?_
          rw [← hsf2.out]
          refine ⟨?_, XB.out.trans (HBY.out.mono XB.out.size)⟩
          simp
      · have hcn : ((c : Int) == 0) = false := by rw [beq_eq_false_iff_ne]; omega
        have hvc : decide ((v : Int) < (c : Int)) = false := by rw [decide_eq_false_iff_not]; omega
        have hvc2 : decide (v < c) = false := by rw [decide_eq_false_iff_not]; omega
        have hsf2 : Shy (siftP kl x n (64 - (i + 1)) (d + 1) = r) := ⟨by rw [← HX'.out hcv]; exact hsf.out⟩
        clear hbe hsf HY' HX' hcv hd
        go_wp2_with (first | (refine wpList_load_row rfl 23 (.tmp 4) rfl w.heap.size rfl 23 (u8s kl).toArray (0, 0) _ hX0.out Try.underlying23 rfl (by rw [Hz.out]; kernel_rfl) ?_) | fail)
        go_at_call 13
        refine (kw _).out.mono ?_
        rintro e w1 ⟨a1, m1, c1, rfl, hnl, _, hb1⟩
        obtain ⟨ga, oa, rfl, hca⟩ := hnl.at' 0 v HW.out.1
        obtain rfl : m1 = 1 := by rw [← hnl.len, HW.out.2]
        have HB1 := hide1 (HE.out.trans (hb1.mono HE.out.size))
        have cw : w1.cell? ⟨ga, oa, none⟩ = some (.int .u64 (v : Int)) := hca
        clear hnl hca hb1 kw
        go_wp2_with fail
        go_quiet ((go_at_call 27; exact Calls.quiet_of_same (kc _).out))
        obtain ⟨Y, hY⟩ : ∃ Y, w1.drewN nq = Y := ⟨_, rfl⟩
        have cy : Y.cell? ⟨ga, oa, none⟩ = some (.int .u64 (v : Int)) := by rw [← hY]; exact cw
        have HBY : Hid (Below X.heap.size X Y) := by rw [← hY]; exact below_drewN' HB1.out _
        rw [hY]
        clear hY cw HB1
        go_wp2
        go_roundw
        case rel => exact ⟨i + 1, d + 1, by omega, by have := Hd.out; omega, by go_num, by go_num, HBY.out, hsf2⟩
        case measure => simp [intOf]; omega
    · obtain rfl : i = 64 := by omega
      have hsf2 : Shy ((0, d, (24 : Int)) = r) := ⟨by rw [← HZ.out]; exact hsf.out⟩
      clear hbe hsf hd
      go_wp2
      refine bodyPost_ret (results_tmp3 rfl _ _ _) rfl ?_
      rw [← hsf2.out]
      exact ⟨rfl, XB.out.trans (HE.out.mono XB.out.size)⟩
end Go.Proofs.Ytldopgngbnjlnaa
