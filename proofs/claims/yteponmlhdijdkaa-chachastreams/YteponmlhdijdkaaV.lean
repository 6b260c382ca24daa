/- The walk of ChachaGoesOn. -/
import Derived.Test.YteponmlhdijdkaaU
namespace Go.Proofs.Yteponmlhdijdkaa
open Go.RowKit
set_option maxRecDepth 100000
attribute [local go_sem] not_any

theorem nums_inj {a b : ByteArray} (h : nums a = nums b) : a = b := by
  obtain ⟨⟨la⟩⟩ := a
  obtain ⟨⟨lb⟩⟩ := b
  have h2 : la.map (fun b : UInt8 => b.toNat) = lb.map (fun b : UInt8 => b.toNat) := h
  have h3 : la = lb := by
    refine (List.map_inj_right ?_).1 h2
    intro x y hxy
    exact UInt8.toNat_inj.1 hxy
  rw [h3]
theorem txt_size {l : List Nat} (h : Lt 256 l) : (txt l).size = l.length := nums_size (nums_txt h)

set_option maxHeartbeats 2000000 in
theorem goesOn_all (W : World) (kl : List Nat) (s : ByteArray) (c x y : Nat) (hk : kl.length = 32) (bk : Lt 256 kl) (hc : c < 4294967296) (_hx : x < 256) (_hy : y < 65536) :
    Calls Try.prog 6 #[arr8 kl, .string s, .int .u32 (c : Int), .int .u8 (x : Int), .int .u16 (y : Int)] W fun e w' => e = .returned (.bool true) ∧ Below W.heap.size W w' := by
  obtain ⟨k, hkd⟩ : ∃ v, v = x % 9 := ⟨_, rfl⟩
  obtain ⟨m, hmd⟩ : ∃ v, v = y % 700 := ⟨_, rfl⟩
  have e1 : (x : Int) % 9 = (k : Int) := by omega
  have e1' : Int.tmod (x : Int) 9 = (k : Int) := by rw [Int.tmod_eq_emod_of_nonneg (by omega), e1]
  have e2 : (y : Int) % 700 = (m : Int) := by omega
  have e2' : Int.tmod (y : Int) 700 = (m : Int) := by rw [Int.tmod_eq_emod_of_nonneg (by omega), e2]
  have hk9 : k < 9 := by omega
  have hm7 : m < 700 := by omega
  have ik : (k : Int) < 9 := by omega
  have im : (m : Int) < 700 := by omega
  clear hkd hmd
  by_cases hg : c ≤ 4294967000 ∧ s.size = 12
  · obtain ⟨hc2, hs⟩ := hg
    obtain ⟨p, hp⟩ : ∃ v, v = 64 * k := ⟨_, rfl⟩
    obtain ⟨N, hN⟩ : ∃ v, v = p + m := ⟨_, rfl⟩
    obtain ⟨ck, hck⟩ : ∃ v, v = c + k := ⟨_, rfl⟩
    have hz1 : errP s.size c (N : Int) = 0 := err_none hs (by omega) (by unfold need; omega)
    have hz2 : errP s.size ck (m : Int) = 0 := err_none hs (by omega) (by unfold need; omega)
    have o1 : outP kl s c (N : Int) = txt (streamP kl (nums s) c N) := by rw [outP, if_pos hz1, Int.toNat_natCast]
    have o2 : outP kl s ck (m : Int) = txt (streamP kl (nums s) ck m) := by rw [outP, if_pos hz2, Int.toNat_natCast]
    have k1 := fun w => hide1 (stream_any kl s c (N : Int) w hk bk hc)
    have k2 := fun w => hide1 (stream_any kl s ck (m : Int) w hk bk (by omega))
    rw [hz1, o1] at k1
    rw [hz2, o2] at k2
    have hsz : (txt (streamP kl (nums s) c N)).size = N := by rw [txt_size (streamP_lt _ _ _ _), streamP_length]
    have hfr := run_from (txt (streamP kl (nums s) c N)) p (by rw [hsz]; omega)
    have hcut : (txt (streamP kl (nums s) c N)).extract p (txt (streamP kl (nums s) c N)).size = txt (streamP kl (nums s) ck m) := by
      apply nums_inj
      rw [nums_extract, nums_txt (streamP_lt _ _ _ _), nums_txt (streamP_lt _ _ _ _), List.take_of_length_le (by rw [hsz, List.length_drop, streamP_length]; omega), hN, hp, hck, streamP_on]
    rw [hcut] at hfr
    generalize txt (streamP kl (nums s) c N) = ta at *
    generalize txt (streamP kl (nums s) ck m) = tb at *
    have f1 : 64 * (k : Int) = (p : Int) := by omega
    have f2 : (p : Int) + (m : Int) = (N : Int) := by omega
    have f3 : (c : Int) + (k : Int) = (ck : Int) := by omega
    have g1 : (p : Int) ≤ 600 := by omega
    have g2 : (N : Int) ≤ 1300 := by omega
    have g3 : (ck : Int) < 4294967296 := by omega
    have g4 : (c : Int) ≤ 4294967000 := by omega
    have g5 : ((s.size : Int) != 12) = false := by rw [bne_eq_false_iff_eq]; omega
    have g6 : decide ((4294967000 : Int) < (c : Int)) = false := by rw [decide_eq_false_iff_not]; omega
    have Hz : Hid ((u8s kl).toArray.size = 32) := by show _ = _; simp [u8s, hk]
    clear hp hN hck hz1 hz2 o1 o2 hcut hk bk hc hs hc2 hk9 hm7
    unfold arr8 at k1 k2 ⊢
    go_enter Try.func6, Try.ntmps6
    go_upto_region 1 with (fail)
    generalize hX : World.alloc W _ = X
    have x0 : X.heap[W.heap.size]? = some (row8 31 kl) := by rw [← hX]; exact heap_alloc_new _ _
    have xb : Below W.heap.size W X := by rw [← hX]; exact (Below.refl _ _).alloc (Nat.le_refl _) _
    have X0 := hide1 x0
    have XB := hide1 xb
    clear hX x0 xb
    go_wp2_with (first | (refine wpList_load_row rfl 31 (.tmp 5) rfl W.heap.size rfl 31 (u8s kl).toArray (0, 0) _ X0.out Try.underlying31 rfl (by rw [Hz.out]; kernel_rfl) ?_) | fail)
    go_at_call 14
    refine (k1 _).out.mono ?_
    rintro en w1 ⟨rfl, hb1⟩
    have Y0 := hide1 ((hb1.block _ (lt_heap X0.out)).trans X0.out)
    have YB := hide1 (XB.out.trans (hb1.mono XB.out.size))
    clear hb1 k1 X0 XB
    go_wp2_with (first | (refine wpList_load_row rfl 31 (.tmp 5) rfl W.heap.size rfl 31 (u8s kl).toArray (0, 0) _ Y0.out Try.underlying31 rfl (by rw [Hz.out]; kernel_rfl) ?_) | fail)
    go_at_call 14
    refine (k2 _).out.mono ?_
    rintro en w2 ⟨rfl, hb2⟩
    have ZB := hide1 (YB.out.trans (hb2.mono YB.out.size))
    clear hb2 k2 Y0 YB
    go_wp2_with (go_at_call 11; refine (awake_any _).mono ?_; rintro e w' ⟨rfl, rfl⟩)
    go_ret
    exact ⟨rfl, ZB.out⟩
  · have hB := fun (o : Obj) => hide1 ((Below.refl W.heap.size W).alloc (Nat.le_refl _) o)
    clear hk bk hc hk9 hm7
    unfold arr8
    by_cases h1 : 4294967000 < c
    · have h2 : (4294967000 : Int) < (c : Int) := by omega
      clear hg
      go_enter Try.func6, Try.ntmps6
      go_wp2_with (go_at_call 11; refine (awake_any _).mono ?_; rintro e w' ⟨rfl, rfl⟩)
      go_ret
      exact ⟨rfl, (hB _).out⟩
    · have h2 : decide ((4294967000 : Int) < (c : Int)) = false := by rw [decide_eq_false_iff_not]; omega
      have h3 : ((s.size : Int) != 12) = true := by rw [bne_iff_ne]; omega
      clear hg
      go_enter Try.func6, Try.ntmps6
      go_wp2_with (go_at_call 11; refine (awake_any _).mono ?_; rintro e w' ⟨rfl, rfl⟩)
      go_ret
      exact ⟨rfl, (hB _).out⟩
end Go.Proofs.Yteponmlhdijdkaa
