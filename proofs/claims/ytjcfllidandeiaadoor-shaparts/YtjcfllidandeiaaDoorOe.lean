/- Lists of texts; the walk of ShaParts. -/
import Derived.Test.YtjcfllidandeiaaDoorOd
namespace Go.Proofs.YtjcfllidandeiaaDoor
open Go.RowKit
set_option maxRecDepth 100000
attribute [local go_sem] not_any

/- a list of texts that came in -/
structure Txts (w : World) (n : Nat) (a : Option Addr) (L : List ByteArray) : Prop where
  cell : ∀ j, j < n → ∃ g o, a = some ⟨g, o, none⟩ ∧ w.cell? ⟨g, o + j, none⟩ = some (.string (L.getD j ByteArray.empty))

theorem Txts.below {w w' : World} {n : Nat} {a : Option Addr} {L : List ByteArray} (h : Txts w n a L) (hb : Below w.heap.size w w') : Txts w' n a L := ⟨fun j hj => by
  obtain ⟨g, o, e, hc⟩ := h.cell j hj
  exact ⟨g, o, e, (hb.cell (p := ⟨g, o + j, none⟩) (World.block_lt_of_cell? w _ hc)).trans hc⟩⟩

set_option maxHeartbeats 4000000 in
theorem shaParts_any (n cap : Nat) (a : Option Addr) (L : List ByteArray) (w : World) (hL : Laid w) (hT : Txts w n a L) :
    Calls Tryd.prog 4 #[.slice a n cap] w fun e w' => e = .returned (.bool true) ∧ Below w.heap.size w w' := by
  have HL := hide1 hL
  have HT := hide1 hT
  have hz35 := zero35
  clear hL hT
  by_cases h20 : n ≤ 20
  · have g20 : ¬ (20 < (n : Int)) := by omega
    go_enter Tryd.func4, Tryd.ntmps4
    go_wp2_with fail
    generalize hW : World.alloc w _ = W
    have h2 : Sums W w.heap.size (grownP []) (restP []) ([] : List Nat).length := ⟨by rw [← hW]; exact heap_alloc_new _ _, rfl, rfl⟩
    have h3 : Below w.heap.size w W := by rw [← hW]; exact (Below.refl _ _).alloc (Nat.le_refl _) _
    have H2 := hide1 h2
    have H3 := hide1 h3
    have hg24 := guard24
    have he1 := fun l w => eq_digest (sumP_length l) (sumP_lt l) w
    clear hW h2 h3
    go_loopw [4, 5] (fun v4 v5 wr => ∃ (i : Nat) (acc : ByteArray), i ≤ n ∧ v5 = .int .i64 i ∧ v4 = .string acc ∧ acc.size ≤ 200 * i ∧ Sums wr w.heap.size (grownP (nums acc)) (restP (nums acc)) (nums acc).length ∧ Below w.heap.size w wr) (fun _ v5 _ => n - (intOf v5).toNat)
    case atStart => exact ⟨0, ByteArray.empty, Nat.zero_le _, rfl, rfl, Nat.le_refl _, H2.out, H3.out⟩
    case round =>
      obtain ⟨i, acc, hi, rfl, rfl, ha, hS, hB⟩ := hrel
      have HS := hide1 hS
      have HB := hide1 hB
      have HLr := hide1 (HL.out.below hB HL.out.two)
      have Hlt := hide1 (lt_heap hS.row)
      by_cases hin : i < n
      · have gin : (i : Int) < (n : Int) := by omega
        obtain ⟨g, o, rfl, hc0⟩ := HT.out.cell i hin
        have hgl : g < w.heap.size := World.block_lt_of_cell? w _ hc0
        have hc := (hB.cell (p := ⟨g, o + i, none⟩) hgl).trans hc0
        obtain ⟨j, hj⟩ : ∃ j, j = o + i := ⟨_, rfl⟩
        rw [← hj] at hc
        have ej : o + i = j := hj.symm
        generalize L.getD i ByteArray.empty = s at hc
        clear hS hB hj hc0
        by_cases hs : s.size ≤ 200
        · have g200 : ¬ (200 < (s.size : Int)) := by omega
          have hWr := hide1 (write_any w.heap.size (nums acc) s wr HLr.out HL.out.two HS.out (nums_lt _) (by rw [nums_length]; omega))
          go_wp2_with fail
          refine hWr.out.mono ?_
          rintro e w1 ⟨rfl, hS1, hB1⟩
          rw [← nums_append] at hS1
          have hb1 : Below w.heap.size w w1 := HB.out.trans (hB1.below (Nat.le_refl _) HB.out.size)
          have hc1 : w1.cell? ⟨g, j, none⟩ = some (.string s) := (hB1.below (Nat.le_refl _) HB.out.size).cell (p := ⟨g, j, none⟩) hgl |>.trans hc
          have hL1 : Laid w1 := HL.out.below hb1 HL.out.two
          have hz : (acc ++ s).size ≤ 200 * (i + 1) := by rw [ByteArray.size_append]; omega
          have z1 : ¬ (9223372036854775807 < acc.size + s.size) := by omega
          have S1 := hide1 hS1
          have B1 := hide1 hb1
          have Hz := hide1 hz
          have HL1 := hide1 hL1
          obtain ⟨N, hN⟩ : ∃ N, N = (nums (acc ++ s)).length := ⟨_, rfl⟩
          have eN : (acc ++ s).size = N := by rw [hN, nums_length]
          have hNb : N ≤ 4000 := by omega
          have wN : IntKind.u64.wrap (N : Int) = (N : Int) := by rw [IntKind.wrap_u64]; omega
          have hSm := hide1 (sum_any w.heap.size (nums (acc ++ s)) w1 hL1 HL.out.two hS1 (nums_lt _) (by rw [← hN]; omega))
          have hLn : ∀ w', Below w1.heap.size w1 w' → Sums w' w.heap.size (grownP (nums (acc ++ s))) (restP (nums (acc ++ s))) N := fun w' hb' => by rw [hN]; exact hS1.to (hb'.block _ (lt_heap hS1.row))
          have HLn := hide1 hLn
          have HN := hide1 hN
          clear hWr hc hS1 hb1 hL1 hB1 hz hN hLn
          unfold arr8 at hSm
          by_cases h3 : i % 3 = 0
          · have t3 : (i : Int) % 3 = 0 := by omega
            have t3' : Int.tmod (i : Int) 3 = 0 := by rw [Int.tmod_eq_emod_of_nonneg (by omega)]; exact t3
            go_wp2_with fail
            refine hSm.out.mono ?_
            rintro e w2 ⟨rfl, hb2⟩
            have B2 := hide1 hb2
            clear hb2 hSm
            go_wp2_with fail
            have hA := hide1 (shaSum_any (acc ++ s) w2 (HL1.out.below B2.out HL1.out.two) (by omega))
            unfold arr8 at hA
            refine hA.out.mono ?_
            rintro e w3 ⟨rfl, hb3⟩
            have B3 : Hid (Below w1.heap.size w1 w3) := B2.out.trans (hb3.mono B2.out.size)
            clear hb3 hA
            go_wp2_with fail
            refine (len_any w.heap.size N _ (HLn.out _ B3.out).taken).mono ?_
            rintro e w3' ⟨rfl, rfl⟩
            go_wp2
            go_roundw
            case rel =>
              have h1 := HLn.out _ B3.out
              rw [HN.out] at h1
              exact ⟨i + 1, acc ++ s, by omega, by go_num, rfl, Hz.out, h1, B1.out.trans (B3.out.mono B1.out.size)⟩
            case measure => simp [intOf]; omega
          · have t3 : ¬ (i : Int) % 3 = 0 := by omega
            have t3' : ¬ Int.tmod (i : Int) 3 = 0 := by rw [Int.tmod_eq_emod_of_nonneg (by omega)]; exact t3
            clear hSm
            go_wp2_with fail
            refine (len_any w.heap.size N _ (HLn.out _ (Below.refl _ _)).taken).mono ?_
            rintro e w3' ⟨rfl, rfl⟩
            go_wp2
            go_roundw
            case rel => exact ⟨i + 1, acc ++ s, by omega, by go_num, rfl, Hz.out, S1.out, B1.out⟩
            case measure => simp [intOf]; omega
        · have g200 : 200 < (s.size : Int) := by omega
          go_wp2_with fail
          refine (awake_any _ HLr.out).mono ?_
          rintro e w1 ⟨rfl, hb1⟩
          go_wp2
          go_ret
          exact ⟨rfl, HB.out.trans (hb1.mono HB.out.size)⟩
      · have gin : ¬ (i : Int) < (n : Int) := by omega
        have hSm := hide1 (sum_any w.heap.size (nums acc) wr HLr.out HL.out.two hS (nums_lt _) (by rw [nums_length]; omega))
        unfold arr8 at hSm
        clear hS hB
        by_cases h1000 : acc.size ≤ 1000
        · have g1000 : ¬ (1000 < (acc.size : Int)) := by omega
          go_wp2_with fail
          refine hSm.out.mono ?_
          rintro e w2 ⟨rfl, hb2⟩
          have B2 := hide1 hb2
          clear hb2 hSm
          go_wp2_with fail
          have hA := hide1 (rsum_any acc w2 (by omega))
          unfold arr8 at hA
          refine hA.out.mono ?_
          rintro e w3 ⟨rfl, hb3⟩
          have B3 : Hid (Below wr.heap.size wr w3) := B2.out.trans (hb3.mono B2.out.size)
          clear hb3 hA
          go_wp2_with fail
          refine (awake_any _ (HLr.out.below B3.out HLr.out.two)).mono ?_
          rintro e w4 ⟨rfl, hb4⟩
          go_wp2
          go_ret
          exact ⟨rfl, HB.out.trans ((B3.out.trans (hb4.mono B3.out.size)).mono HB.out.size)⟩
        · have g1000 : 1000 < (acc.size : Int) := by omega
          go_wp2_with fail
          refine hSm.out.mono ?_
          rintro e w2 ⟨rfl, hb2⟩
          have B2 := hide1 hb2
          clear hb2 hSm
          go_wp2_with fail
          have hA := hide1 (shaSum_any acc w2 (HLr.out.below B2.out HLr.out.two) (by omega))
          unfold arr8 at hA
          refine hA.out.mono ?_
          rintro e w3 ⟨rfl, hb3⟩
          have B3 : Hid (Below wr.heap.size wr w3) := B2.out.trans (hb3.mono B2.out.size)
          clear hb3 hA
          go_wp2_with fail
          refine (awake_any _ (HLr.out.below B3.out HLr.out.two)).mono ?_
          rintro e w4 ⟨rfl, hb4⟩
          go_wp2
          go_ret
          exact ⟨rfl, HB.out.trans ((B3.out.trans (hb4.mono B3.out.size)).mono HB.out.size)⟩
  · have g20 : 20 < (n : Int) := by omega
    go_enter Tryd.func4, Tryd.ntmps4
    go_wp2_with fail
    refine (awake_any _ HL.out).mono ?_
    rintro e w1 ⟨rfl, hb1⟩
    go_wp2
    go_ret
    exact ⟨rfl, hb1⟩
end Go.Proofs.YtjcfllidandeiaaDoor
