/- Are steps few, and what comes of them not great? -/
import Derived.Test.YtogninhgibbfnaaDoorTc
namespace Go.Proofs.YtogninhgibbfnaaDoor
open Go.RowKit Go.Shelf
set_option maxRecDepth 100000
attribute [local go_sem] not_any mf_any

def Few (ss : List Rw) : Prop := ss.length ≤ 24 ∧ (∀ (j : Nat) (s : Rw), ss[j]? = some s → s.wh.size ≤ 200) ∧ ∀ (j : Nat) (o : Option Info), (infosOf ss)[j]? = some o → cnt o ≤ 200

def SmallPost (w : World) (ss : List Rw) (e : Ending) (w' : World) : Prop := ∃ b, e = .returned (.bool b) ∧ Below w.heap.size w w' ∧ (b = true → Few ss)

set_option maxHeartbeats 4000000 in
theorem small_any (w : World) (v : Value) (ss : List Rw) (hv : RowsIn w.heap.size w v ss) :
    Calls Tryd.prog 6 #[v] w fun e w' => SmallPost w ss e w' := by
  have HV := hide1 hv
  obtain ⟨a, cap, rfl, hr⟩ := hv
  have HR := hide1 hr
  clear hr
  by_cases hlen : ss.length ≤ 24
  · go_enter Tryd.func6, Tryd.ntmps6
    go_wp2
    go_loopw [3] (fun i wr => ∃ k : Nat, k ≤ ss.length ∧ i = .int .i64 k ∧ wr = w ∧ ∀ j s, j < k → ss[j]? = some s → s.wh.size ≤ 200) (fun i _ => ss.length - (intOf i).toNat)
    case atStart => exact ⟨0, Nat.zero_le _, rfl, rfl, fun j s h => by omega⟩
    case round =>
      obtain ⟨k, hk, rfl, rfl, hall⟩ := hrel
      have HA := hide1 hall
      clear hall
      by_cases hlt : k < ss.length
      · have hs : ss[k]? = some ss[k] := List.getElem?_eq_getElem hlt
        obtain ⟨s, hs'⟩ : ∃ s, s = ss[k] := ⟨_, rfl⟩
        rw [← hs'] at hs
        obtain ⟨g, o, hg, rfl, hc0, hc1, hc2, hc3, hc4⟩ := HR.out k s hs
        have HS := hide1 hs
        clear hs hs'
        by_cases hz : s.wh.size ≤ 200
        · go_wp2
          go_roundw
          case rel =>
            refine ⟨k + 1, by omega, by go_num, (by first | rfl | trivial), fun j t hj ht => ?_⟩
            by_cases hjk : j < k
            · exact HA.out j t hjk ht
            · have : j = k := by omega
              subst this
              rw [HS.out] at ht
              cases ht
              exact hz
          case measure => simp [intOf]; omega
        · go_wp2
          go_ret
          exact ⟨false, rfl, Below.refl _ _, fun h => by cases h⟩
      · have hkl : k = ss.length := by omega
        subst hkl
        go_wp2_with fail
        refine (nodes_any _ _ ss HV.out (by omega)).mono ?_
        rintro e w1 ⟨lv, rfl, hrow, hB⟩
        have HW := hide1 (And.intro hrow hB)
        clear hrow hB
        go_wp2_with fail
        refine (count_any lv (nodesOf ss) (infosOf ss) (good_of ss) (by rw [nodesOf_length]; omega) w1 (rowsAt' HW.out.1 (nodesOf_length ss))).mono ?_
        rintro e w2 ⟨ov, rfl, hrow2, hB2⟩
        rw [nodesOf_length] at hrow2
        obtain ⟨oa, oc, rfl⟩ := row_form hrow2
        have HX := hide1 (And.intro hrow2 (HW.out.2.trans (hB2.mono HW.out.2.size)))
        clear hrow2 hB2
        go_wp2
        go_loopw [5] (fun i wr => ∃ k : Nat, k ≤ ss.length ∧ i = .int .i64 k ∧ wr = w2 ∧ ∀ (j : Nat) o, j < k → (infosOf ss)[j]? = some o → cnt o ≤ 200) (fun i _ => ss.length - (intOf i).toNat)
        case atStart => exact ⟨0, Nat.zero_le _, rfl, rfl, fun j s h => by omega⟩
        case round =>
          obtain ⟨k, hk, rfl, rfl, hall⟩ := hrel
          have HC := hide1 hall
          clear hall
          have hil : (infosOf ss).length = ss.length := by rw [← (good_of ss).1, nodesOf_length]
          by_cases hlt : k < ss.length
          · obtain ⟨o, ho⟩ : ∃ o, (infosOf ss)[k]? = some o := ⟨_, List.getElem?_eq_getElem (by omega)⟩
            obtain ⟨ga, ca, hga, hca⟩ := ints_at HX.out.1 (j := k) (x := cnt o) (by simp [ho]) hlt
            cases hga
            have HO := hide1 ho
            obtain ⟨x, hx⟩ : ∃ x, x = cnt o := ⟨_, rfl⟩
            have hxl := (cnt_le o)
            rw [← hx] at hca hxl
            have HX2 := hide1 hx
            clear ho hx hil
            by_cases hz : x ≤ 200
            · go_wp2
              go_roundw
              case rel =>
                refine ⟨k + 1, by omega, by go_num, (by first | rfl | trivial), fun j t hj ht => ?_⟩
                by_cases hjk : j < k
                · exact HC.out j t hjk ht
                · have : j = k := by omega
                  subst this
                  rw [HO.out] at ht
                  cases ht
                  rw [← HX2.out]
                  exact hz
              case measure => simp [intOf]; omega
            · go_wp2
              go_ret
              exact ⟨false, rfl, HX.out.2, fun h => by cases h⟩
          · have hkl : k = ss.length := by omega
            subst hkl
            go_wp2
            go_ret
            refine ⟨true, rfl, HX.out.2, fun _ => ⟨hlen, fun j s hj => HA.out j s (List.getElem?_eq_some_iff.1 hj).1 hj, fun j o hj => HC.out j o ?_ hj⟩⟩
            have := (List.getElem?_eq_some_iff.1 hj).1
            have hil : (infosOf ss).length = ss.length := by rw [← (good_of ss).1, nodesOf_length]
            omega
  · go_enter Tryd.func6, Tryd.ntmps6
    go_wp2
    go_ret
    exact ⟨false, rfl, Below.refl _ _, fun h => by cases h⟩

end Go.Proofs.YtogninhgibbfnaaDoor
