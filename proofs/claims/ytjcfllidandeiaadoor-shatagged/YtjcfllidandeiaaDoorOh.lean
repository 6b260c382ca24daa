/- The walk of ShaTagged. -/
import Derived.Test.YtjcfllidandeiaaDoorOg
namespace Go.Proofs.YtjcfllidandeiaaDoor
open Go.RowKit
set_option maxRecDepth 100000
attribute [local go_sem] not_any

set_option maxHeartbeats 4000000 in
theorem shaTagged_any (t : ByteArray) (n cap : Nat) (a : Option Addr) (L : List ByteArray) (w : World) (hL : Laid w) (hT : Txts w n a L) (hts : t.size ≤ 140737488351232) (hes : ∀ j, j < n → (L.getD j ByteArray.empty).size ≤ 140737488351232) :
    Calls Tryd.prog 5 #[.string t, .slice a n cap] w fun e w' => e = .returned (.bool true) ∧ Below w.heap.size w w' := by
  have HL := hide1 hL
  have HT := hide1 hT
  have HE := hide1 hes
  have hg24 := guard24
  have he1 := fun l w => eq_digest (sumP_length l) (sumP_lt l) w
  clear hL hT hes
  go_enter Tryd.func5, Tryd.ntmps5
  go_wp2_with fail
  go_loop [5, 6] (fun v5 v6 => ∃ i x : Nat, i ≤ n ∧ v6 = .int .i64 i ∧ v5 = .int .i64 x ∧ Shy (x = totTo t L i) ∧ x ≤ 140737488352000) (fun _ v6 => n - (intOf v6).toNat)
  case atStart => exact ⟨0, t.size, Nat.zero_le _, rfl, rfl, ⟨rfl⟩, by omega⟩
  case round =>
    obtain ⟨i, x, hi, rfl, rfl, HX, hx⟩ := hrel
    by_cases c1 : i < n
    · have d1 : (i : Int) < (n : Int) := by omega
      by_cases c2 : i ≤ 20
      · have d2 : (i : Int) ≤ 20 := by omega
        by_cases c3 : x ≤ 600
        · have d3 : (x : Int) ≤ 600 := by omega
          obtain ⟨g, o, rfl, hc⟩ := HT.out.cell i c1
          obtain ⟨j, hj⟩ : ∃ j, j = o + i := ⟨_, rfl⟩
          rw [← hj] at hc
          have ej : o + i = j := hj.symm
          have hsz := HE.out i c1
          have HN : Shy (totTo t L (i + 1) = totTo t L i + (L.getD i ByteArray.empty).size) := ⟨rfl⟩
          generalize L.getD i ByteArray.empty = s at hc hsz HN
          clear hj
          obtain ⟨y, hy⟩ : ∃ y, y = x + s.size := ⟨_, rfl⟩
          have ey : (x : Int) + (s.size : Int) = (y : Int) := by omega
          have wy : IntKind.i64.wrap (y : Int) = (y : Int) := by rw [IntKind.wrap_i64]; omega
          have HY : Shy (y = totTo t L (i + 1)) := ⟨by rw [HN.out, hy, HX.out]⟩
          have hyb : y ≤ 140737488352000 := by omega
          clear hy HN
          go_wp2_with fail
          go_round
          case rel => exact ⟨i + 1, y, by omega, by go_num, rfl, HY, hyb⟩
          case measure => simp [intOf]; omega
        · have d3 : ¬ (x : Int) ≤ 600 := by omega
          have d3' : 600 < (x : Int) := by omega
          by_cases c4 : 20 < n
          · have d4 : 20 < (n : Int) := by omega
            go_wp2_with fail
            refine (awake_any _ HL.out).mono ?_
            rintro e w1 ⟨rfl, hb1⟩
            go_wp2
            go_ret
            exact ⟨rfl, hb1⟩
          · have d4 : ¬ 20 < (n : Int) := by omega
            go_wp2_with fail
            refine (awake_any _ HL.out).mono ?_
            rintro e w1 ⟨rfl, hb1⟩
            go_wp2
            go_ret
            exact ⟨rfl, hb1⟩
      · have d2 : ¬ (i : Int) ≤ 20 := by omega
        have d4 : 20 < (n : Int) := by omega
        go_wp2_with fail
        refine (awake_any _ HL.out).mono ?_
        rintro e w1 ⟨rfl, hb1⟩
        go_wp2
        go_ret
        exact ⟨rfl, hb1⟩
    · have d1 : ¬ (i : Int) < (n : Int) := by omega
      by_cases c4 : 20 < n
      · have d4 : 20 < (n : Int) := by omega
        go_wp2_with fail
        refine (awake_any _ HL.out).mono ?_
        rintro e w1 ⟨rfl, hb1⟩
        go_wp2
        go_ret
        exact ⟨rfl, hb1⟩
      · have d4 : ¬ 20 < (n : Int) := by omega
        by_cases c3 : x ≤ 600
        · have d3 : ¬ 600 < (x : Int) := by omega
          have hin : i = n := by omega
          subst hin
          have hz : totTo t L i ≤ 600 := by rw [← HX.out]; exact c3
          have hA := hide1 (tagged_any t i cap a L w HL.out HT.out (by omega) hz)
          have hR := fun w1 hb => hide1 (rtagged_any t i cap a L w1 (HT.out.below hb) (by omega) hz)
          unfold arr8 at hA hR
          clear hz
          go_wp2_with fail
          refine hA.out.mono ?_
          rintro e w1 ⟨rfl, hb1⟩
          have B1 := hide1 hb1
          clear hb1 hA
          go_wp2_with fail
          refine (hR _ B1.out).out.mono ?_
          rintro e w2 ⟨rfl, hb2⟩
          have B2 : Hid (Below w.heap.size w w2) := B1.out.trans (hb2.mono B1.out.size)
          clear hb2 hR
          go_wp2_with fail
          refine (awake_any _ (HL.out.below B2.out HL.out.two)).mono ?_
          rintro e w3 ⟨rfl, hb3⟩
          go_wp2
          go_ret
          exact ⟨rfl, B2.out.trans (hb3.mono B2.out.size)⟩
        · have d3 : 600 < (x : Int) := by omega
          go_wp2_with fail
          refine (awake_any _ HL.out).mono ?_
          rintro e w1 ⟨rfl, hb1⟩
          go_wp2
          go_ret
          exact ⟨rfl, hb1⟩
end Go.Proofs.YtjcfllidandeiaaDoor
