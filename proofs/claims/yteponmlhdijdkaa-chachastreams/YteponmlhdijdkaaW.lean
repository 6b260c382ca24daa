/- The document's Stream. -/
import Derived.Test.YteponmlhdijdkaaV
import Derived.Test.YteponmlhdijdkaaN
namespace Go.Proofs.Yteponmlhdijdkaa
open Go.RowKit
set_option maxRecDepth 100000
attribute [local go_sem] not_any

theorem run_upto (s : ByteArray) (q : Nat) (h : q ≤ s.size) (w : World) : (Instr.slice 9 (.string s) none (some (.int .i64 (q : Int))) none).run Try.prog w = .ok (.string (s.extract 0 q)) w := by
  have := Try.underlying9
  go_simp

set_option maxHeartbeats 2000000 in
theorem rstream_any (kl : List Nat) (s : ByteArray) (c : Nat) (n : Int) (w : World) (hk : kl.length = 32) (bk : Lt 256 kl) (hc : c < 4294967296) :
    Calls Try.prog 15 #[arr8 kl, .string s, .int .u32 (c : Int), .int .i64 n] w fun e w' => e = .returned (.tuple #[.string (outP kl s c n), .int .i64 (errP s.size c n)]) ∧ Below w.heap.size w w' := by
  have hB := fun (o : Obj) => hide1 ((Below.refl w.heap.size w).alloc (Nat.le_refl _) o)
  by_cases hs : s.size = 12
  · have h1 : ((s.size : Int) != 12) = false := by rw [bne_eq_false_iff_eq]; omega
    by_cases hn : n < 0
    · have he := err_limit (c := c) hs (.inl hn)
      rw [outP, he, if_neg (by omega)]
      clear he hk bk hc hs
      unfold arr8
      go_enter Try.func15, Try.ntmps15
      go_wp2
      go_ret2
      exact ⟨rfl, (hB _).out⟩
    · have hn3 : decide (n < 0) = false := by rw [decide_eq_false_iff_not]; exact hn
      by_cases hn2 : 65536 < n
      · have he := err_limit (c := c) hs (.inr hn2)
        rw [outP, he, if_neg (by omega)]
        clear he hk bk hc hs
        unfold arr8
        go_enter Try.func15, Try.ntmps15
        go_wp2
        go_ret2
        exact ⟨rfl, (hB _).out⟩
      · obtain ⟨N, rfl⟩ := Int.eq_ofNat_of_zero_le (show 0 ≤ n by omega)
        have hN : N ≤ 65536 := by omega
        have hNi : (N : Int) ≤ 65536 := by omega
        have Hz : Hid ((u8s kl).toArray.size = 32) := by show _ = _; simp [u8s, hk]
        have HRB : Hid (∀ (d : Nat) (w : World), d < 4294967296 → Calls Try.prog 13 #[.agg (u8s kl).toArray, .string s, .int .u32 (d : Int)] w fun e w' => e = .returned (.tuple #[.string (txt (blockP kl (nums s) d)), .int .i64 0]) ∧ Below w.heap.size w w') := fun d w hd => rblock_any kl s d w hk bk hs hd
        have HCE : Hid (4294967296 < c + need N → errP s.size c (N : Int) = 24) := fun h => err_count hs hN h
        have HCZ : Hid (c + need N ≤ 4294967296 → errP s.size c (N : Int) = 0) := fun h => err_none hs hN h
        have HNd : Shy (need N = (N + 63) / 64) := ⟨rfl⟩
        have HC := hide1 hc
        have hci : (c : Int) < 4294967296 := by omega
        clear hk bk hc hs hB
        unfold arr8
        go_enter Try.func15, Try.ntmps15
        go_upto_region 5 with (fail)
        generalize hX : World.alloc w _ = X
        have x0 : X.heap[w.heap.size]? = some (row8 31 kl) := by rw [← hX]; exact heap_alloc_new _ _
        have xb : Below w.heap.size w X := by rw [← hX]; exact (Below.refl _ _).alloc (Nat.le_refl _) _
        have X0 := hide1 x0
        have XB := hide1 xb
        clear hX x0 xb
        go_wp2
        go_loopw [10, 11] (fun v10 v11 wr => ∃ (k a : Nat) (o : ByteArray), k ≤ need N ∧ a = c + k ∧ a ≤ 4294967296 ∧ v11 = .int .i64 a ∧ v10 = .string o ∧ Shy (nums o = strT kl (nums s) c k) ∧ Below X.heap.size X wr) (fun _ v11 _ => 4294967297 - (intOf v11).toNat)
        case atStart => exact ⟨0, c, ByteArray.empty, Nat.zero_le _, rfl, Nat.le_of_lt HC.out, rfl, rfl, ⟨rfl⟩, Below.refl _ _⟩
        case round =>
          obtain ⟨k, a, o, hk, ha, ha2, rfl, rfl, ho, hbe⟩ := hrel
          have hsz : o.size = 64 * k := by rw [nums_size ho.out, strT_length]
          obtain ⟨z, hz⟩ : ∃ z, z = 64 * k := ⟨_, rfl⟩
          rw [← hz] at hsz
          have Hz2 : Shy (z = 64 * k) := ⟨hz⟩
          have Ha : Shy (a = c + k) := ⟨ha⟩
          have HE := hide1 hbe
          have hX0 : Hid (wr.heap[w.heap.size]? = some (row8 31 kl)) := (hbe.block _ (lt_heap X0.out)).trans X0.out
          by_cases hlt : z < N
          · have hlti : (z : Int) < (N : Int) := by omega
            by_cases hfull : a < 4294967296
            · have hfi : decide ((4294967295 : Int) < (a : Int)) = false := by rw [decide_eq_false_iff_not]; omega
              have hai : (a : Int) < 4294967296 := by omega
              have hB2 := fun w => hide1 (HRB.out a w hfull)
              have HT : Shy (nums (txt (blockP kl (nums s) a)) = blockP kl (nums s) a) := ⟨nums_txt (blockP_lt _ _ _)⟩
              have hts : (txt (blockP kl (nums s) a)).size = 64 := by rw [txt_size (blockP_lt _ _ _), blockP_length]
              have HN : Shy (nums (o ++ txt (blockP kl (nums s) a)) = strT kl (nums s) c (k + 1)) := ⟨by rw [nums_append, ho.out, HT.out, strT, Ha.out]⟩
              generalize txt (blockP kl (nums s) a) = tb at *
              have hk2 : k + 1 ≤ need N := by have := HNd.out; omega
              have zz : ¬ (9223372036854775807 < o.size + tb.size) := by omega
              have zz2 : ¬ (9223372036854775807 < z + 64) := by omega
              have HK2 := hide1 hk2
              clear hbe ha hz hk2 HT
              go_wp2_with (first | (refine wpList_load_row rfl 31 (.tmp 4) rfl w.heap.size rfl 31 (u8s kl).toArray (0, 0) _ hX0.out Try.underlying31 rfl (by rw [Hz.out]; kernel_rfl) ?_) | fail)
              go_at_call 13
              refine (hB2 _).out.mono ?_
              rintro e w3 ⟨rfl, hb3⟩
              have B3 := hide1 (HE.out.trans (hb3.mono HE.out.size))
              clear hb3 hB2
              go_wp2
              go_roundw
              case rel =>
                refine ⟨k + 1, a + 1, _, HK2.out, by have := Ha.out; omega, by omega, by go_num, rfl, HN, B3.out⟩
              case measure => simp [intOf]; omega
            · have hae : a = 4294967296 := by omega
              have hfi : (4294967295 : Int) < (a : Int) := by omega
              have he : errP s.size c (N : Int) = 24 := HCE.out (by have := HNd.out; omega)
              have HP : Shy (outP kl s c (N : Int) = ByteArray.empty ∧ errP s.size c (N : Int) = 24) := ⟨by rw [outP, he, if_neg (by omega)], he⟩
              clear hbe ha hz he
              go_wp2
              go_ret2
              exact ⟨by rw [HP.out.1, HP.out.2]; rfl, XB.out.trans (HE.out.mono XB.out.size)⟩
          · have hke : k = need N := by have := HNd.out; omega
            have he : errP s.size c (N : Int) = 0 := HCZ.out (by omega)
            have hup := run_upto o N (by omega)
            have hxt : o.extract 0 N = txt (streamP kl (nums s) c N) := by
              apply nums_inj
              rw [nums_txt (streamP_lt _ _ _ _), nums_extract, ho.out, List.drop_zero, Nat.sub_zero, streamP, hke]
            have HP : Shy (outP kl s c (N : Int) = o.extract 0 N ∧ errP s.size c (N : Int) = 0) := ⟨by rw [outP, he, if_pos rfl, Int.toNat_natCast, hxt], he⟩
            generalize o.extract 0 N = tn at *
            have hlti : ¬ (z : Int) < (N : Int) := by omega
            clear hbe ha hz he hxt hke
            go_wp2
            go_ret2
            exact ⟨by rw [HP.out.1, HP.out.2]; rfl, XB.out.trans (HE.out.mono XB.out.size)⟩
  · have he := err_shape (c := c) (n := n) hs
    have h1 : ((s.size : Int) != 12) = true := by rw [bne_iff_ne]; omega
    rw [outP, he, if_neg (by omega)]
    clear he hk bk hc hs
    unfold arr8
    go_enter Try.func15, Try.ntmps15
    go_wp2
    go_ret2
    exact ⟨rfl, (hB _).out⟩
end Go.Proofs.Yteponmlhdijdkaa
