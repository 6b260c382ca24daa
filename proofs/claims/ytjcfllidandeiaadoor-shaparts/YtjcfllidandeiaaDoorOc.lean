/- The document's Sum. -/
import Derived.Test.YtjcfllidandeiaaDoorO
import Derived.Test.YtjcfllidandeiaaDoorOa
namespace Go.Proofs.YtjcfllidandeiaaDoor
open Go.RowKit
set_option maxRecDepth 100000
attribute [local go_sem] not_any

theorem first_row : (u32s FIRST).toArray = #[.int .u32 1779033703, .int .u32 3144134277, .int .u32 1013904242, .int .u32 2773480762, .int .u32 1359893119, .int .u32 2600822924, .int .u32 528734635, .int .u32 1541459225] := rfl
theorem first_length : FIRST.length = 8 := rfl
theorem first_lt : Lt 4294967296 FIRST := by unfold Lt; decide +kernel
theorem roots_length : ROOTS.length = 64 := by decide +kernel
theorem roots_lt : Lt 4294967296 ROOTS := by unfold Lt; decide +kernel

set_option maxHeartbeats 4000000 in
theorem rsum_any (s : ByteArray) (w : World) (hz : s.size ≤ 4096) :
    Calls Tryd.prog 10 #[.string s] w fun e w' => e = .returned (arr8 (sumP (nums s))) ∧ Below w.heap.size w w' := by
  have hpz := padP_length (nums s)
  have hpd : padZ (nums s).length = (119 - (nums s).length % 64) % 64 := rfl
  rw [nums_length] at hpz hpd
  rw [← ref_sum]
  go_enter Tryd.func10, Tryd.ntmps10
  go_wp2_with fail
  generalize hW : World.alloc w _ = W
  have h1 : W.heap[w.heap.size]? = some (row8 24 (zeros 32)) := by rw [← hW]; exact heap_alloc_new _ _
  have h2 : Below w.heap.size w W := by rw [← hW]; exact (Below.refl _ _).alloc (Nat.le_refl _) _
  have H1 := hide1 h1
  have H2 := hide1 h2
  clear hW h1 h2
  refine (rounds_any _).mono ?_
  rintro e w1 ⟨kv, rfl, ho, hb⟩
  have hk : Rd w1 kv ROOTS := rd_own ho (by rw [roots_length]; omega)
  have HK := hide1 hk
  have HB := hide1 hb
  clear ho hb hk
  go_wp2_with fail
  generalize hY : World.alloc w1 _ = Y
  have hy : Rd Y (.slice (some ⟨w1.heap.size, 0, none⟩) 8 8) FIRST := by
    rw [← hY]
    have := rd_new w1 FIRST
    rw [first_row, first_length] at this
    exact this
  have hby : Below W.heap.size W Y := by rw [← hY]; exact HB.out.alloc HB.out.size _
  have hky : Rd Y kv ROOTS := HK.out.below (by rw [← hY]; exact (Below.refl _ _).alloc (Nat.le_refl _) _)
  have HY := hide1 hy
  have HBY := hide1 hby
  have HKY := hide1 hky
  clear hY hy hby hky HB HK
  refine (padded_any s _ hz).mono ?_
  rintro e w2 ⟨p, rfl, hp, hb2⟩
  have hps : p.size = (padP (nums s)).length := nums_size hp
  obtain ⟨nb, hnb⟩ : ∃ nb, nb = (padP (nums s)).length / 64 := ⟨_, rfl⟩
  have hp64 : p.size = 64 * nb := by omega
  have hnb' : nb ≤ 100 := by omega
  have HP : Shy (nums p = padP (nums s)) := ⟨hp⟩
  have HR : Shy (refP (nums s) = dig (chainP (padP (nums s)) nb)) := ⟨by rw [refP, hnb]⟩
  have HB2 : Hid (Below W.heap.size W w2) := HBY.out.trans (hb2.mono HBY.out.size)
  have HY2 : Hid (Rd w2 (.slice (some ⟨w1.heap.size, 0, none⟩) 8 8) FIRST) := HY.out.below hb2
  have HK2 : Hid (Rd w2 kv ROOTS) := HKY.out.below hb2
  clear hp hb2 hps hnb hpz hpd HY HBY HKY
  have HPS : Shy (p.size = 64 * nb) := ⟨hp64⟩
  go_wp2
  go_loopw [4, 6] (fun v4 v6 wr => ∃ n : Nat, n ≤ nb ∧ v6 = .int .i64 (64 * n : Nat) ∧ Rd wr v4 (chainP (padP (nums s)) n) ∧ Below w2.heap.size w2 wr) (fun _ v6 _ => 64 * nb - (intOf v6).toNat)
  case atStart => exact ⟨0, Nat.zero_le _, rfl, HY2.out, Below.refl _ _⟩
  case round =>
    obtain ⟨n, hn, rfl, hr, hb⟩ := hrel
    obtain ⟨i, hi⟩ : ∃ i, i = 64 * n := ⟨_, rfl⟩
    have HI : Shy (i = 64 * n) := ⟨hi⟩
    rw [← hi]
    by_cases hlt : n < nb
    · obtain ⟨j, hj⟩ : ∃ j, j = i + 64 := ⟨_, rfl⟩
      have ej : (i : Int) + 64 = (j : Int) := by omega
      have wj : IntKind.i64.wrap (j : Int) = (j : Int) := by rw [IntKind.wrap_i64]; omega
      have lij : (i : Int) < (p.size : Int) := by omega
      have g1 : (i : Int) ≤ (j : Int) := by omega
      have g2 : (j : Int) ≤ (p.size : Int) := by omega
      have g3 : i ≤ j := by omega
      have g4 : j ≤ p.size := by omega
      have hnx : nums (p.extract i j) = blockAt (padP (nums s)) n := by rw [nums_extract, HP.out, hj, hi, Nat.add_sub_cancel_left]; rfl
      have hnz : (p.extract i j).size = 64 := by rw [nums_size rfl, hnx, blockAt, List.length_take, List.length_drop, ← HP.out, nums_length, hp64]; omega
      have hC := hide1 (with_any (chainP (padP (nums s)) n) ROOTS (p.extract i j) wr _ kv hr (HK2.out.below hb) (chain_length _ _) roots_length (chain_lt _ _) roots_lt hnz)
      have HNX : Shy (nums (p.extract i j) = blockAt (padP (nums s)) n) := ⟨hnx⟩
      have HB := hide1 hb
      have HJ : Shy (j = i + 64) := ⟨hj⟩
      clear hr hb hnx hnz hj hi hp64
      go_wp2_with fail
      refine hC.out.mono ?_
      rintro e w5 ⟨v5, rfl, hr5, hb5⟩
      rw [HNX.out] at hr5
      have HR5 := hide1 hr5
      have HB5 : Hid (Below w2.heap.size w2 w5) := HB.out.trans (hb5.mono HB.out.size)
      clear hr5 hb5 hC
      go_wp2
      go_roundw
      case rel => exact ⟨n + 1, by omega, by rw [HJ.out, HI.out]; congr 1, HR5.out, HB5.out⟩
      case measure => have h1 := HJ.out; have h2 := HI.out; simp [intOf]; omega
    · have hnn : n = nb := by omega
      obtain ⟨Z, hZ⟩ : ∃ Z, Z = wr := ⟨_, rfl⟩
      subst hZ
      subst hnn
      have li : ¬ (i : Int) < (p.size : Int) := by omega
      obtain ⟨gh, ch, rfl, hgh, hch⟩ := hr.val
      rw [chain_length] at hch ⊢
      obtain ⟨h, hh⟩ : ∃ h, h = chainP (padP (nums s)) n := ⟨_, rfl⟩
      rw [← hh] at hch HR
      have hhl : h.length = 8 := by rw [hh]; exact chain_length _ _
      have hht : Lt 4294967296 h := by rw [hh]; exact chain_lt _ _
      have HHL := hide1 hhl
      have HHT := hide1 hht
      have HG := hide1 hgh
      have HCH : Hid (∀ j, j < 8 → ∀ w' : World, Below Z.heap.size Z w' → w'.cell? ⟨gh, j, none⟩ = some (.int .u32 (at0 h j : Nat))) := fun j hj w' hb' => (hb'.cell (p := ⟨gh, j, none⟩) hgh).trans (hch j hj)
      have HBB : Hid (Below W.heap.size W Z) := HB2.out.trans (hb.mono HB2.out.size)
      clear hr hb hh hhl hht hgh hch hi HI HPS hp64 HP HY2 HK2 HB2
      go_wp2
      generalize hV : World.alloc Z _ = V
      have v1 : V.heap[Z.heap.size]? = some (row8 24 (digTo h 0)) := by rw [← hV]; exact heap_alloc_new _ _
      have v2 : Below Z.heap.size Z V := by rw [← hV]; exact (Below.refl _ _).alloc (Nat.le_refl _) _
      have V1 := hide1 v1
      have V2 := hide1 v2
      clear hV v1 v2
      go_loopw [8] (fun v8 wr => ∃ m : Nat, m ≤ 32 ∧ v8 = .int .i64 m ∧ wr.heap[Z.heap.size]? = some (row8 24 (digTo h m)) ∧ Below Z.heap.size Z wr) (fun v8 _ => 32 - (intOf v8).toNat)
      case atStart => exact ⟨0, Nat.zero_le _, rfl, V1.out, V2.out⟩
      case round =>
        obtain ⟨m, hm, rfl, hrow, hbe⟩ := hrel
        by_cases hlt2 : m < 32
        · obtain ⟨q, hq⟩ : ∃ q, q = m / 4 := ⟨_, rfl⟩
          obtain ⟨r, hr⟩ : ∃ r, r = m % 4 := ⟨_, rfl⟩
          obtain ⟨t, ht⟩ : ∃ t, t = 8 * r := ⟨_, rfl⟩
          obtain ⟨u, hu⟩ : ∃ u, u = 24 - t := ⟨_, rfl⟩
          have dq : (m : Int) / 4 = (q : Int) := by omega
          have dq' : Int.tdiv (m : Int) 4 = (q : Int) := by rw [Int.tdiv_eq_ediv_of_nonneg (by omega)]; exact dq
          have wq : IntKind.i64.wrap (q : Int) = (q : Int) := by rw [IntKind.wrap_i64]; omega
          have dr : (m : Int) % 4 = (r : Int) := by omega
          have dr' : Int.tmod (m : Int) 4 = (r : Int) := by rw [Int.tmod_eq_emod_of_nonneg (by omega)]; exact dr
          have Z' : IntKind.i64.wrap (r : Int) = (r : Int) := by rw [IntKind.wrap_i64]; omega
          have dt : 8 * (r : Int) = (t : Int) := by omega
          have wt : IntKind.i64.wrap (t : Int) = (t : Int) := by rw [IntKind.wrap_i64]; omega
          have du : 24 - (t : Int) = (u : Int) := by omega
          have wu : IntKind.i64.wrap (u : Int) = (u : Int) := by rw [IntKind.wrap_i64]; omega
          have wu2 : IntKind.u64.wrap (u : Int) = (u : Int) := by rw [IntKind.wrap_u64]; omega
          have hq8 : q < 8 := by omega
          have lq : (q : Int) < 8 := by omega
          have lu : (u : Int) ≤ 24 := by omega
          have cq := HCH.out q hq8 wr hbe
          have hx := HHT.out.at (by omega) q
          have ck := cell8 hrow (j := m) (by rw [digTo_length HHL.out hm]; exact hlt2)
          have fk := frozen_of_row wr Z.heap.size m _ _ hrow
          have HS : Shy ((digTo h m).set m (at0 h q / 2 ^ u % 256) = digTo h (m + 1)) := ⟨by
            have := digTo_set HHL.out hlt2
            rw [← hq, ← hr, ← ht, ← hu] at this
            exact this⟩
          generalize at0 h q = x at cq hx HS
          obtain ⟨z, hz'⟩ : ∃ z, z = x / 2 ^ u % 256 := ⟨_, rfl⟩
          have ez : (x : Int) / 2 ^ u % 256 = (z : Int) := by
            rw [hz', Int.natCast_emod, Int.natCast_ediv, Int.natCast_pow]; rfl
          rw [← hz'] at HS
          have HRow := hide1 hrow
          have HBE := hide1 hbe
          clear hq hr ht hu hrow hbe hz'
          go_wp2
          go_roundw
          case rel => exact ⟨m + 1, by omega, by go_num, by rw [← HS.out]; exact set8 HRow.out, HBE.out.setCell (Nat.le_refl _) _⟩
          case measure => simp [intOf]; omega
        · have : m = 32 := by omega
          subst this
          rw [digTo_all HHL.out] at hrow
          have hl := dig_length HHL.out
          have hW2 : wr.heap[w.heap.size]? = some (row8 24 (zeros 32)) := (hbe.block _ (by have := lt_heap H1.out; have := HBB.out.size; omega)).trans ((HBB.out.block _ (lt_heap H1.out)).trans H1.out)
          have HRow := hide1 hrow
          have HBE := hide1 hbe
          have HW2 := hide1 hW2
          have HD := hide1 hl
          clear hrow hbe hW2 hl
          go_wp2_with (first | (refine wpList_load_row rfl 24 (.tmp 7) rfl Z.heap.size rfl 24 (u8s (dig h)).toArray (0, 0) _ HRow.out Tryd.underlying24 rfl (by rw [show (u8s (dig h)).toArray.size = 32 by simp [u8s, HD.out]]; kernel_rfl) ?_) | (refine wpList_store_own rfl 24 (.tmp 2) (.tmp 45) rfl w.heap.size rfl (u8s (dig h)).toArray rfl 24 _ HW2.out (by rw [show (u8s (dig h)).toArray.size = 32 by simp [u8s, HD.out]]; kernel_rfl) (by simp [u8s, HD.out, zeros]) (all_one (u8s_one _)) ?_))
          refine ret_row Tryd.results10 w.heap.size 24 (u8s (dig h)).toArray rfl (setRow_heap _ _ _ _ _ _ HW2.out) Tryd.underlying24 (by rw [show (u8s (dig h)).toArray.size = 32 by simp [u8s, HD.out]]; kernel_rfl) rfl ⟨by rw [HR.out]; rfl, ?_⟩
          exact Below.setRow' (H2.out.trans ((HBB.out.trans (HBE.out.mono HBB.out.size)).mono H2.out.size)) (Nat.le_refl _) _
end Go.Proofs.YtjcfllidandeiaaDoor
