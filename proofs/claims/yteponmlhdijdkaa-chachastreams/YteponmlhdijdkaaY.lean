/- The walk of ChachaStreams. -/
import Derived.Test.YteponmlhdijdkaaX
namespace Go.Proofs.Yteponmlhdijdkaa
open Go.RowKit
set_option maxRecDepth 100000
attribute [local go_sem] not_any

theorem mix_twice {kl : List Nat} {s : ByteArray} {c : Nat} {t : ByteArray} (h : errP s.size c (t.size : Int) = 0) :
    (mixP kl s c t).size = t.size ∧ mixP kl s c (mixP kl s c t) = t := by
  have e1 : mixP kl s c t = txt (xr (streamP kl (nums s) c t.size) (nums t)) := by rw [mixP, if_pos h]
  have lt : Lt 256 (xr (streamP kl (nums s) c t.size) (nums t)) := xr_lt (streamP_lt _ _ _ _) (nums_lt t)
  have hs : (mixP kl s c t).size = t.size := by rw [e1, txt_size lt, xr_length, streamP_length]
  refine ⟨hs, ?_⟩
  rw [mixP, hs, if_pos h]
  apply nums_inj
  rw [e1, nums_txt lt, nums_txt (xr_lt (streamP_lt _ _ _ _) lt), xr_twice]
  rw [streamP_length, nums_length]

theorem awake_alone (W : World) (o : Obj) : Hid (Below W.heap.size W (W.alloc o)) := (Below.refl _ _).alloc (Nat.le_refl _) _

set_option maxHeartbeats 4000000 in
theorem streams_main (W : World) (kl : List Nat) (s : ByteArray) (c : Nat) (n : Int) (t : ByteArray) (hk : kl.length = 32) (bk : Lt 256 kl) (hc : c < 4294967296) (hn : n ≤ 600 ∨ 65536 < n) (ht : t.size ≤ 600) :
    Calls Try.prog 5 #[arr8 kl, .string s, .int .u32 (c : Int), .int .i64 n, .string t] W fun e w' => e = .returned (.bool true) ∧ Below W.heap.size W w' := by
  have k1 := fun w => hide1 (stream_any kl s c n w hk bk hc)
  have k2 := fun w => hide1 (rstream_any kl s c n w hk bk hc)
  have k3 := fun w => hide1 (mix_any kl s c t w hk bk hc)
  have k4 := fun w => hide1 (rmix_any kl s c t w hk bk hc (by omega))
  have k5 : Hid (errP s.size c (t.size : Int) = 0 → ∀ w, Calls Try.prog 16 #[arr8 kl, .string s, .int .u32 (c : Int), .string (mixP kl s c t)] w fun e w' => e = .returned (.tuple #[.string t, .int .i64 0]) ∧ Below w.heap.size w w') := by
    show _ → _
    intro h w
    have m := mix_twice (kl := kl) h
    have := mix_any kl s c (mixP kl s c t) w hk bk hc
    rw [m.2, m.1, h] at this
    exact this
  have Hem : Hid (errP s.size c (t.size : Int) ≠ 0 → mixP kl s c t = ByteArray.empty) := fun h => by rw [mixP, if_neg h]
  have Hz : Hid ((u8s kl).toArray.size = 32) := by show _ = _; simp [u8s, hk]
  generalize mixP kl s c t = tm at *
  generalize errP s.size c (t.size : Int) = e2 at *
  generalize outP kl s c n = ta at *
  generalize errP s.size c n = e1 at *
  have h3 : decide ((600 : Int) < (t.size : Int)) = false := by rw [decide_eq_false_iff_not]; omega
  clear hk bk hc ht
  by_cases hn6 : n ≤ 600
  · have h1 : decide ((600 : Int) < n) = false := by rw [decide_eq_false_iff_not]; omega
    clear hn hn6
    unfold arr8 at k1 k2 k3 k4 k5 ⊢
    go_enter Try.func5, Try.ntmps5
    go_upto_region 1 with (fail)
    generalize hX : World.alloc W _ = X
    have X0 : Hid (X.heap[W.heap.size]? = some (row8 31 kl)) := by show _ = _; rw [← hX]; exact heap_alloc_new _ _
    have XB : Hid (Below W.heap.size W X) := by show Below _ _ _; rw [← hX]; exact (Below.refl _ _).alloc (Nat.le_refl _) _
    clear hX
    go_wp2_with (first | (refine wpList_load_row rfl 31 (.tmp 5) rfl W.heap.size rfl 31 (u8s kl).toArray (0, 0) _ X0.out Try.underlying31 rfl (by rw [Hz.out]; kernel_rfl) ?_) | fail)
    go_at_call 14
    refine (k1 _).out.mono ?_
    rintro en w1 ⟨rfl, hb1⟩
    replace X0 := hide1 ((hb1.block _ (lt_heap X0.out)).trans X0.out)
    replace XB := hide1 (XB.out.trans (hb1.mono XB.out.size))
    clear hb1
    go_wp2_with (first | (refine wpList_load_row rfl 31 (.tmp 5) rfl W.heap.size rfl 31 (u8s kl).toArray (0, 0) _ X0.out Try.underlying31 rfl (by rw [Hz.out]; kernel_rfl) ?_) | fail)
    go_at_call 15
    refine (k2 _).out.mono ?_
    rintro en w2 ⟨rfl, hb1⟩
    replace X0 := hide1 ((hb1.block _ (lt_heap X0.out)).trans X0.out)
    replace XB := hide1 (XB.out.trans (hb1.mono XB.out.size))
    clear hb1
    go_wp2_with (first | (refine wpList_load_row rfl 31 (.tmp 5) rfl W.heap.size rfl 31 (u8s kl).toArray (0, 0) _ X0.out Try.underlying31 rfl (by rw [Hz.out]; kernel_rfl) ?_) | fail)
    go_at_call 16
    refine (k3 _).out.mono ?_
    rintro en w3 ⟨rfl, hb1⟩
    replace X0 := hide1 ((hb1.block _ (lt_heap X0.out)).trans X0.out)
    replace XB := hide1 (XB.out.trans (hb1.mono XB.out.size))
    clear hb1
    go_wp2_with (first | (refine wpList_load_row rfl 31 (.tmp 5) rfl W.heap.size rfl 31 (u8s kl).toArray (0, 0) _ X0.out Try.underlying31 rfl (by rw [Hz.out]; kernel_rfl) ?_) | fail)
    go_at_call 17
    refine (k4 _).out.mono ?_
    rintro en w4 ⟨rfl, hb1⟩
    replace X0 := hide1 ((hb1.block _ (lt_heap X0.out)).trans X0.out)
    replace XB := hide1 (XB.out.trans (hb1.mono XB.out.size))
    clear hb1
    by_cases hz : e2 = 0
    · subst hz
      have k6 := fun w => hide1 (k5.out rfl w)
      clear k5
      go_wp2_with (first | (refine wpList_load_row rfl 31 (.tmp 5) rfl W.heap.size rfl 31 (u8s kl).toArray (0, 0) _ X0.out Try.underlying31 rfl (by rw [Hz.out]; kernel_rfl) ?_) | fail)
      go_at_call 16
      refine (k6 _).out.mono ?_
      rintro en w5 ⟨rfl, hb1⟩
      replace XB := hide1 (XB.out.trans (hb1.mono XB.out.size))
      clear hb1 X0
      go_wp2_with (go_at_call 11; refine (awake_any _).mono ?_; rintro e w' ⟨rfl, rfl⟩)
      go_ret
      exact ⟨rfl, XB.out⟩
    · have hz' : (e2 != 0) = true := by rw [bne_iff_ne]; exact hz
      have hem := Hem.out hz
      subst hem
      go_wp2_with (go_at_call 11; refine (awake_any _).mono ?_; rintro e w' ⟨rfl, rfl⟩)
      go_ret
      exact ⟨rfl, XB.out⟩
  · have h1 : (600 : Int) < n := by omega
    have h2 : decide (n ≤ 65536) = false := by rw [decide_eq_false_iff_not]; omega
    clear hn hn6
    unfold arr8 at k1 k2 k3 k4 k5 ⊢
    go_enter Try.func5, Try.ntmps5
    go_upto_region 1 with (fail)
    generalize hX : World.alloc W _ = X
    have X0 : Hid (X.heap[W.heap.size]? = some (row8 31 kl)) := by show _ = _; rw [← hX]; exact heap_alloc_new _ _
    have XB : Hid (Below W.heap.size W X) := by show Below _ _ _; rw [← hX]; exact (Below.refl _ _).alloc (Nat.le_refl _) _
    clear hX
    go_wp2_with (first | (refine wpList_load_row rfl 31 (.tmp 5) rfl W.heap.size rfl 31 (u8s kl).toArray (0, 0) _ X0.out Try.underlying31 rfl (by rw [Hz.out]; kernel_rfl) ?_) | fail)
    go_at_call 14
    refine (k1 _).out.mono ?_
    rintro en w1 ⟨rfl, hb1⟩
    replace X0 := hide1 ((hb1.block _ (lt_heap X0.out)).trans X0.out)
    replace XB := hide1 (XB.out.trans (hb1.mono XB.out.size))
    clear hb1
    go_wp2_with (first | (refine wpList_load_row rfl 31 (.tmp 5) rfl W.heap.size rfl 31 (u8s kl).toArray (0, 0) _ X0.out Try.underlying31 rfl (by rw [Hz.out]; kernel_rfl) ?_) | fail)
    go_at_call 15
    refine (k2 _).out.mono ?_
    rintro en w2 ⟨rfl, hb1⟩
    replace X0 := hide1 ((hb1.block _ (lt_heap X0.out)).trans X0.out)
    replace XB := hide1 (XB.out.trans (hb1.mono XB.out.size))
    clear hb1
    go_wp2_with (first | (refine wpList_load_row rfl 31 (.tmp 5) rfl W.heap.size rfl 31 (u8s kl).toArray (0, 0) _ X0.out Try.underlying31 rfl (by rw [Hz.out]; kernel_rfl) ?_) | fail)
    go_at_call 16
    refine (k3 _).out.mono ?_
    rintro en w3 ⟨rfl, hb1⟩
    replace X0 := hide1 ((hb1.block _ (lt_heap X0.out)).trans X0.out)
    replace XB := hide1 (XB.out.trans (hb1.mono XB.out.size))
    clear hb1
    go_wp2_with (first | (refine wpList_load_row rfl 31 (.tmp 5) rfl W.heap.size rfl 31 (u8s kl).toArray (0, 0) _ X0.out Try.underlying31 rfl (by rw [Hz.out]; kernel_rfl) ?_) | fail)
    go_at_call 17
    refine (k4 _).out.mono ?_
    rintro en w4 ⟨rfl, hb1⟩
    replace X0 := hide1 ((hb1.block _ (lt_heap X0.out)).trans X0.out)
    replace XB := hide1 (XB.out.trans (hb1.mono XB.out.size))
    clear hb1
    by_cases hz : e2 = 0
    · subst hz
      have k6 := fun w => hide1 (k5.out rfl w)
      clear k5
      go_wp2_with (first | (refine wpList_load_row rfl 31 (.tmp 5) rfl W.heap.size rfl 31 (u8s kl).toArray (0, 0) _ X0.out Try.underlying31 rfl (by rw [Hz.out]; kernel_rfl) ?_) | fail)
      go_at_call 16
      refine (k6 _).out.mono ?_
      rintro en w5 ⟨rfl, hb1⟩
      replace XB := hide1 (XB.out.trans (hb1.mono XB.out.size))
      clear hb1 X0
      go_wp2_with (go_at_call 11; refine (awake_any _).mono ?_; rintro e w' ⟨rfl, rfl⟩)
      go_ret
      exact ⟨rfl, XB.out⟩
    · have hz' : (e2 != 0) = true := by rw [bne_iff_ne]; exact hz
      have hem := Hem.out hz
      subst hem
      go_wp2_with (go_at_call 11; refine (awake_any _).mono ?_; rintro e w' ⟨rfl, rfl⟩)
      go_ret
      exact ⟨rfl, XB.out⟩

set_option maxHeartbeats 2000000 in
theorem streams_all (W : World) (kl : List Nat) (s : ByteArray) (c : Nat) (n : Int) (t : ByteArray) (hk : kl.length = 32) (bk : Lt 256 kl) (hc : c < 4294967296) :
    Calls Try.prog 5 #[arr8 kl, .string s, .int .u32 (c : Int), .int .i64 n, .string t] W fun e w' => e = .returned (.bool true) ∧ Below W.heap.size W w' := by
  by_cases hn : n ≤ 600 ∨ 65536 < n
  · by_cases ht : t.size ≤ 600
    · exact streams_main W kl s c n t hk bk hc hn ht
    · have h3 : (600 : Int) < (t.size : Int) := by omega
      clear hk bk hc ht
      unfold arr8
      by_cases hn6 : n ≤ 600
      · have h1 : decide ((600 : Int) < n) = false := by rw [decide_eq_false_iff_not]; omega
        clear hn hn6
        go_enter Try.func5, Try.ntmps5
        go_wp2_with (go_at_call 11; refine (awake_any _).mono ?_; rintro e w' ⟨rfl, rfl⟩)
        go_ret
        exact ⟨rfl, (awake_alone _ _).out⟩
      · have h1 : (600 : Int) < n := by omega
        have h2 : decide (n ≤ 65536) = false := by rw [decide_eq_false_iff_not]; omega
        clear hn hn6
        go_enter Try.func5, Try.ntmps5
        go_wp2_with (go_at_call 11; refine (awake_any _).mono ?_; rintro e w' ⟨rfl, rfl⟩)
        go_ret
        exact ⟨rfl, (awake_alone _ _).out⟩
  · have h1 : (600 : Int) < n := by omega
    have h2 : n ≤ 65536 := by omega
    clear hk bk hc hn
    unfold arr8
    go_enter Try.func5, Try.ntmps5
    go_wp2_with (go_at_call 11; refine (awake_any _).mono ?_; rintro e w' ⟨rfl, rfl⟩)
    go_ret
    exact ⟨rfl, (awake_alone _ _).out⟩
end Go.Proofs.Yteponmlhdijdkaa
