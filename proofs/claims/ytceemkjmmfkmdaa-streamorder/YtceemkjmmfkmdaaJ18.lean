/- The walk of StreamCounts. -/
import Derived.Test.YtceemkjmmfkmdaaJ17
import Derived.Test.YtceemkjmmfkmdaaJ06
namespace Go.Proofs.Ytceemkjmmfkmdaa.St
open Go.RowKit
set_option maxRecDepth 100000
attribute [local go_sem] not_any

/- a list of numbers that is read -/
structure Il (w : World) (n : Nat) (a : Option Addr) (l : List Int) : Prop where
  len : l.length = n
  at' : ∀ (j : Nat) (x : Int), l[j]? = some x → ∃ g o, a = some ⟨g, o, none⟩ ∧ w.cell? ⟨g, o + j, none⟩ = some (.int .i64 x)

set_option maxHeartbeats 16000000 in
theorem counts_all (N c : Nat) (a : Option Addr) (l : List Int) (w : World) (hl : Il w N a l) :
    Calls Try.prog 4 #[.slice a N c] w fun e w' => e = .returned (.bool true) ∧ Below w.heap.size w w' := by
  have HL := hide1 hl
  have kA := fun w => hide1 (awake_any w)
  have kR := fun (k g : Nat) (n : Int) w h1 h2 => hide1 (reserve_any k g n w h1 h2)
  have kN := fun (k g : Nat) w h1 => hide1 (next_any k g w h1)
  have kR0 := fun w => hide1 (reserve_none 1 w)
  have kN0 := fun w => hide1 (next_none w)
  clear hl
  go_enter Try.func4, Try.ntmps4
  go_upto_region 2 with (fail)
  generalize hX : World.alloc w _ = X
  have x0 : Ctr X w.heap.size 0 := by unfold Ctr; rw [← hX]; exact heap_alloc_new _ _
  have xb : Below w.heap.size w X := by rw [← hX]; exact below1 _
  obtain ⟨g, hg⟩ : ∃ g, g = w.heap.size := ⟨_, rfl⟩
  have hge : w.heap.size ≤ g := by omega
  rw [← hg] at x0 ⊢
  have X0 := hide1 x0
  have XB := hide1 xb
  clear hX x0 xb hg
  go_wp2
  go_loopw [4, 5] (fun v4 v5 wr => ∃ i k : Nat, i ≤ N ∧ i ≤ 200 ∧ v5 = .int .i64 i ∧ v4 = .int .i64 (k : Int) ∧ k ≤ 67108864 ∧ Ctr wr g k ∧ Below w.heap.size w wr) (fun _ v5 _ => N - (intOf v5).toNat)
  case atStart => exact ⟨0, 0, Nat.zero_le _, Nat.zero_le _, rfl, rfl, Nat.zero_le _, X0.out, XB.out⟩
  case round =>
    obtain ⟨i, k, hi, hi2, rfl, rfl, hk, hc, hbe⟩ := hrel
    by_cases hlt : i < N ∧ i < 200
    · have bi : (i : Int) < (N : Int) := by omega
      have bi2 : (i : Int) < 200 := by omega
      obtain ⟨x, hx⟩ : ∃ x, l[i]? = some x := ⟨_, List.getElem?_eq_getElem (by rw [HL.out.len]; exact hlt.1)⟩
      obtain ⟨ga, oa, rfl, hcc⟩ := HL.out.at' i x hx
      obtain ⟨ja, hja⟩ : ∃ j, j = oa + i := ⟨_, rfl⟩
      rw [← hja] at hcc
      have eja : oa + i = ja := hja.symm
      have LC : Hid (∀ V, Below w.heap.size w V → V.cell? ⟨ga, ja, none⟩ = some (.int .i64 x)) := fun V h => (h.cell (p := ⟨ga, ja, none⟩) (lt_cell hcc)).trans hcc
      have c0 := LC.out wr hbe
      have KR := hide1 (kR k g x wr hc hk)
      have HE := hide1 hbe
      clear hx hja hcc hc hbe
      go_upto_region 6 with (fail)
      go_wp2_with fail
      go_at_call 12
      refine KR.out.out.mono ?_
      rintro e w1 ⟨rfl, hc1, hk1⟩
      have HE1 := hide1 (HE.out.trans (hk1.below HE.out.size (fun b hb => by rw [hb]; exact hge)))
      have c1 := LC.out w1 HE1.out
      have KN := hide1 (kN (cntK k x) g w1 hc1)
      have LC2 : Hid (∀ V, Below w1.heap.size w1 V → V.cell? ⟨ga, ja, none⟩ = some (.int .i64 x)) := fun V h => LC.out V (HE1.out.trans (h.mono HE1.out.size))
      clear hc1 hk1 KR HE LC c0
      by_cases h1 : x < 0
      · have hc : cntC k x = 2 := if_pos (.inl h1)
        have hK : cntK k x = k := if_neg (by rw [hc]; omega)
        have hF : cntF k x = 0 := if_neg (by rw [hc]; omega)
        rw [hK] at KN
        rw [hc, hF]
        have e1 : IntKind.u64.wrap (k : Int) = (k : Int) := by rw [IntKind.wrap_u64]; omega
        have q0 : ((k : Int) != (k : Int)) = false := by simp
        clear hc hK hF
        go_wp2_with fail
        go_at_call 13
        refine KN.out.out.mono ?_
        rintro e w2 ⟨rfl, hc2, hb2⟩
        have HC2 := hide1 hc2
        have HE2 := hide1 (HE1.out.trans (hb2.mono HE1.out.size))
        clear hc2 hb2 c1
        go_wp2
        go_roundw
        case rel => exact ⟨i + 1, k, by omega, by omega, by go_num, rfl, hk, HC2.out, HE2.out⟩
        case measure => simp [intOf]; omega
      · by_cases h2 : 4096 < x
        · have hc : cntC k x = 2 := if_pos (.inr h2)
          have hK : cntK k x = k := if_neg (by rw [hc]; omega)
          have hF : cntF k x = 0 := if_neg (by rw [hc]; omega)
          rw [hK] at KN
          rw [hc, hF]
          have e1 : IntKind.u64.wrap (k : Int) = (k : Int) := by rw [IntKind.wrap_u64]; omega
          have q0 : ((k : Int) != (k : Int)) = false := by simp
          clear hc hK hF
          go_wp2_with fail
          go_at_call 13
          refine KN.out.out.mono ?_
          rintro e w2 ⟨rfl, hc2, hb2⟩
          have HC2 := hide1 hc2
          have HE2 := hide1 (HE1.out.trans (hb2.mono HE1.out.size))
          clear hc2 hb2 c1
          go_wp2
          go_roundw
          case rel => exact ⟨i + 1, k, by omega, by omega, by go_num, rfl, hk, HC2.out, HE2.out⟩
          case measure => simp [intOf]; omega
        · obtain ⟨m, rfl⟩ : ∃ m : Nat, x = (m : Int) := ⟨x.toNat, by omega⟩
          have hc0 : cntC k (m : Int) = if 67108864 < (k : Int) + (m : Int) then 24 else 0 := if_neg (by omega)
          have e2 : IntKind.i64.wrap ((k : Int) + (m : Int)) = ((k + m : Nat) : Int) := by rw [← Int.natCast_add, wrap_i64_nat (by omega)]
          obtain ⟨K, hKm⟩ : ∃ K, K = k + m := ⟨_, rfl⟩
          by_cases h3 : 67108864 < (k : Int) + (m : Int)
          · have hc : cntC k (m : Int) = 24 := by rw [hc0, if_pos h3]
            have hK : cntK k (m : Int) = k := if_neg (by rw [hc]; omega)
            have hF : cntF k (m : Int) = 0 := if_neg (by rw [hc]; omega)
            rw [hK] at KN
            rw [hc, hF]
            have e1 : IntKind.u64.wrap (k : Int) = (k : Int) := by rw [IntKind.wrap_u64]; omega
            have q0 : ((k : Int) != (k : Int)) = false := by simp
            rw [← hKm] at e2
            have t3 : (67108864 : Int) < (K : Int) := by omega
            clear hc hK hF hc0 h3 hKm
            go_wp2_with fail
            go_at_call 13
            refine KN.out.out.mono ?_
            rintro e w2 ⟨rfl, hc2, hb2⟩
            have HC2 := hide1 hc2
            have HE2 := hide1 (HE1.out.trans (hb2.mono HE1.out.size))
            clear hc2 hb2 c1
            go_wp2
            go_roundw
            case rel => exact ⟨i + 1, k, by omega, by omega, by go_num, rfl, hk, HC2.out, HE2.out⟩
            case measure => simp [intOf]; omega
          · have hc : cntC k (m : Int) = 0 := by rw [hc0, if_neg h3]
            have hK : cntK k (m : Int) = K := by rw [hKm]; exact if_pos hc
            have hF : cntF k (m : Int) = k := if_pos hc
            rw [hK] at KN
            rw [hc, hF]
            have e1 : IntKind.u64.wrap (k : Int) = (k : Int) := by rw [IntKind.wrap_u64]; omega
            have e3 : IntKind.u64.wrap (K : Int) = (K : Int) := by rw [IntKind.wrap_u64]; omega
            have q0 : ((k : Int) != (k : Int)) = false := by simp
            have q1 : ((K : Int) != (K : Int)) = false := by simp
            rw [← hKm] at e2
            have t3 : ¬ (67108864 : Int) < (K : Int) := by omega
            have hKb : K ≤ 67108864 := by omega
            clear hc hK hF hc0 h3 hKm
            go_wp2_with fail
            go_at_call 13
            refine KN.out.out.mono ?_
            rintro e w2 ⟨rfl, hc2, hb2⟩
            have HC2 := hide1 hc2
            have HE2 := hide1 (HE1.out.trans (hb2.mono HE1.out.size))
            clear hc2 hb2 c1
            go_wp2
            go_roundw
            case rel => exact ⟨i + 1, K, by omega, by omega, by go_num, rfl, hKb, HC2.out, HE2.out⟩
            case measure => simp [intOf]; omega
    · have HE := hide1 hbe
      clear hbe hc
      have fin : Hid (∀ W, Below w.heap.size w W → Below w.heap.size w W) := fun _ h => h
      by_cases hiN : i < N
      · have bi : (i : Int) < (N : Int) := by omega
        have bi2 : ¬ (i : Int) < 200 := by omega
        clear hlt
        go_wp2_with fail
        go_at_call 12
        refine (kR0 _).out.mono ?_
        rintro e w1 ⟨rfl, hb1⟩
        have H1 := hide1 (HE.out.trans (hb1.mono HE.out.size))
        clear hb1
        go_wp2_with fail
        go_at_call 13
        refine (kN0 _).out.mono ?_
        rintro e w2 ⟨rfl, hb2⟩
        have H2 := hide1 (H1.out.trans (hb2.mono H1.out.size))
        clear hb2
        go_wp2_with fail
        go_at_call 11
        refine (kA _).out.mono ?_
        rintro e w3 ⟨rfl, hb3⟩
        have H3 := hide1 (H2.out.trans (hb3.mono H2.out.size))
        clear hb3
        go_wp2
        go_ret
        exact ⟨rfl, H3.out⟩
      · have bi : ¬ (i : Int) < (N : Int) := by omega
        clear hlt
        go_wp2_with fail
        go_at_call 12
        refine (kR0 _).out.mono ?_
        rintro e w1 ⟨rfl, hb1⟩
        have H1 := hide1 (HE.out.trans (hb1.mono HE.out.size))
        clear hb1
        go_wp2_with fail
        go_at_call 13
        refine (kN0 _).out.mono ?_
        rintro e w2 ⟨rfl, hb2⟩
        have H2 := hide1 (H1.out.trans (hb2.mono H1.out.size))
        clear hb2
        go_wp2_with fail
        go_at_call 11
        refine (kA _).out.mono ?_
        rintro e w3 ⟨rfl, hb3⟩
        have H3 := hide1 (H2.out.trans (hb3.mono H2.out.size))
        clear hb3
        go_wp2
        go_ret
        exact ⟨rfl, H3.out⟩
end Go.Proofs.Ytceemkjmmfkmdaa.St
