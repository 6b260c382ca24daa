/- Not; Xor and And. -/
import Derived.Test.YtnpanmdajcbbfaaI
import Derived.Test.YtnpanmdajcbbfaaF
namespace Go.Proofs.Ytnpanmdajcbbfaa
open Go.RowKit
set_option maxRecDepth 100000
attribute [local go_sem] not_any mf_any

theorem not_testBit {x j : Nat} (hx : x < 18446744073709551616) (hj : j < 64) : (18446744073709551615 - x).testBit j = !x.testBit j := by
  have := Nat.testBit_two_pow_sub_succ (x := x) (n := 64) hx j
  rw [show 2 ^ 64 - (x + 1) = 18446744073709551615 - x by omega] at this
  rw [this]
  simp [hj]

theorem xor_max {x : Nat} (hx : x < 18446744073709551616) : bits .xor .u64 IntKind.u64.max (x : Int) = ((18446744073709551615 - x : Nat) : Int) := by
  have e : IntKind.u64.max = ((18446744073709551615 : Nat) : Int) := by decide
  rw [e, u64_xor_nat _ _ (by omega) hx]
  congr 1
  apply Nat.eq_of_testBit_eq
  intro j
  rw [Nat.testBit_xor]
  have h1 : (18446744073709551615 : Nat).testBit j = decide (j < 64) := Nat.testBit_two_pow_sub_one 64 j
  rw [h1]
  by_cases hj : j < 64
  · rw [not_testBit hx hj]
    simp [hj]
  · have h2 : x.testBit j = false := Nat.testBit_lt_two_pow (Nat.lt_of_lt_of_le hx (show 2 ^ 64 ≤ 2 ^ j from Nat.pow_le_pow_right (by omega) (by omega)))
    have h3 : (18446744073709551615 - x).testBit j = false := Nat.testBit_lt_two_pow (Nat.lt_of_lt_of_le (show 18446744073709551615 - x < 2 ^ 64 by omega) (Nat.pow_le_pow_right (by omega) (by omega)))
    simp [hj, h2, h3]

theorem not1_any (W : World) (p g n b : Nat) (l : List Bool) (i : Nat) (hi : i < need n 64) (hp : W.heap[p]? = some (.cells #[.int .i64 n, .slice (some ⟨g, 0, none⟩) (need n 64) (need n 64)] 26 (0, 0))) (hv : Vc b W n (some ⟨g, 0, none⟩) l) (hn : n ≤ 4194304) :
    Calls Try.prog 49 #[.int .i64 i, .pointer (some ⟨p, 0, none⟩)] W fun e w' => e = .returned (.int .u64 (18446744073709551615 - chunk 64 l i : Nat)) ∧ ∃ q os, w' = Sort.grow (W.drewN q) os := by
  obtain ⟨g', hg', _, hg, hc⟩ := hv.cell hi
  cases hg'
  obtain ⟨c0, c1, _, _, _⟩ := box2 hp
  have hm : need n 64 ≤ 65536 := by rw [need64]; omega
  have hx := chunk64_lt l i
  clear hp hv hg
  go_enter Try.func49, Try.ntmps49
  go_wp2
  go_ret
  refine ⟨?_, gr_refl _⟩
  show Ending.returned (.int .u64 (bits .xor .u64 IntKind.u64.max (chunk 64 l i : Nat))) = _
  rw [xor_max hx]

set_option maxHeartbeats 1000000 in
theorem vnot_any (b : Nat) (w : World) (n : Nat) (a : Option Addr) (l : List Bool) (hv : Vc b w n a l) (hn : n ≤ 4194304) :
    Calls Try.prog 25 #[.agg #[.int .i64 n, .slice a (need n 64) (need n 64)]] w fun e w' => ∃ a', e = .returned (.agg #[.int .i64 n, .slice a' (need n 64) (need n 64)]) ∧ Vc w.heap.size w' n a' (l.map (!·)) ∧ Below w.heap.size w w' := by
  have HV := hide1 hv
  have HM : ∀ W, W.heap[w.heap.size]? = some (.cells #[.int .i64 n, .slice a (need n 64) (need n 64)] 26 (0, 0)) → Below w.heap.size w W →
      Hid (Calls Try.prog 48 #[.int .i64 n, .func (.func 49) #[] #[.pointer (some ⟨w.heap.size, 0, none⟩)]] W fun e w' => ∃ a', e = .returned (.agg #[.int .i64 n, .slice a' (need n 64) (need n 64)]) ∧ Vc W.heap.size w' n a' (l.map (!·)) ∧ Below W.heap.size W w') := by
    intro W hW hB
    refine made_any 49 (.inl rfl) #[.pointer (some ⟨w.heap.size, 0, none⟩)] W n (fun i => 18446744073709551615 - chunk 64 l i) (l.map (!·)) hn (by simp [HV.out.len]) ?_ ?_
    · intro i hi
      refine ⟨by omega, fun j hj hlt => ?_⟩
      rw [not_testBit (chunk64_lt _ _) hj, chunk_testBit]
      rw [List.getD_eq_getElem?_getD, List.getD_eq_getElem?_getD, List.getElem?_map, List.getElem?_eq_getElem (by rw [HV.out.len]; exact hlt)]
      simp [hj]
    · intro i W' hi hB'
      obtain ⟨g, rfl, _⟩ := HV.out.cell hi
      exact not1_any W' w.heap.size g n b l i hi ((hB'.block _ (lt_heap hW)).trans hW) (HV.out.below (hB.trans (hB'.mono hB.size)) (Nat.le_refl _)) hn
  clear hv
  go_enter Try.func25, Try.ntmps25
  go_wp2_with (first | (go_at_call 48; refine (HM _ (heap_alloc2_old _ _ _) (((Below.refl _ _).alloc (Nat.le_refl _) _).alloc (by simp) _)).out.mono ?_; rintro e w1 ⟨a', rfl, hv1, hb⟩; obtain ⟨_, hs, hbw⟩ := after2 hb; obtain ⟨q0, q1, q2, q3, q4⟩ := box2 hs; have HS := hide1 hs; have V1 := hide1 hv1; clear hs hv1))
  refine ret_vec Try.results25 (w.heap.size + 1) _ _ rfl (set_box2 HS.out) rfl ⟨_, rfl, ?_, ?_⟩
  · exact ((V1.out.setCell (by simp) _).setCell (by simp) _).mono (by simp; omega)
  · exact (hbw.setCell (by simp) _).setCell (by simp) _

/- what turns two words to one -/
def Turns (V : FuncId) (f : Nat → Nat → Nat) : Prop := ∀ (x y : Nat) (w : World), x < 18446744073709551616 → y < 18446744073709551616 → Calls Try.prog V #[.int .u64 (x : Int), .int .u64 (y : Int)] w fun e w' => e = .returned (.int .u64 (f x y : Nat)) ∧ ∃ q os, w' = Sort.grow (w.drewN q) os

theorem xor_turns : Turns 45 (fun x y => x ^^^ y) := by
  intro x y w hx hy
  have h := u64_xor_nat x y hx hy
  go_enter Try.func45, Try.ntmps45
  go_wp2
  go_ret
  exact ⟨rfl, gr_refl _⟩

theorem and_turns : Turns 46 (fun x y => x &&& y) := by
  intro x y w hx hy
  have h := u64_and_nat x y hx hy
  go_enter Try.func46, Try.ntmps46
  go_wp2
  go_ret
  exact ⟨rfl, gr_refl _⟩

set_option maxHeartbeats 1000000 in
theorem paired1_any (V : FuncId) (f : Nat → Nat → Nat) (hT : Turns V f) (hen : ∀ args w, (callFunc V args).run Try.prog w = .ok (.enter V args) w) (W : World) (p1 p2 p3 ga gb n ba bb : Nat) (la lb : List Bool) (i : Nat) (hi : i < need n 64)
    (h1 : W.heap[p1]? = some (.cells #[.func (.func V) #[] #[]] 66 (0, 0))) (h2 : W.heap[p2]? = some (.cells #[.int .i64 n, .slice (some ⟨ga, 0, none⟩) (need n 64) (need n 64)] 26 (0, 0)))
    (h3 : W.heap[p3]? = some (.cells #[.int .i64 n, .slice (some ⟨gb, 0, none⟩) (need n 64) (need n 64)] 26 (0, 0))) (hva : Vc ba W n (some ⟨ga, 0, none⟩) la) (hvb : Vc bb W n (some ⟨gb, 0, none⟩) lb) (hn : n ≤ 4194304) :
    Calls Try.prog 54 #[.int .i64 i, .pointer (some ⟨p1, 0, none⟩), .pointer (some ⟨p2, 0, none⟩), .pointer (some ⟨p3, 0, none⟩)] W fun e w' => e = .returned (.int .u64 (f (chunk 64 la i) (chunk 64 lb i) : Nat)) ∧ ∃ q os, w' = Sort.grow (W.drewN q) os := by
  have mixed := mixed
  obtain ⟨_, e, _, hga, hca⟩ := hva.cell hi
  cases e
  obtain ⟨_, e, _, hgb, hcb⟩ := hvb.cell hi
  cases e
  have c1 := cell_grown (lt_heap h1) (a := ⟨p1, 0, none⟩) (v := .func (.func V) #[] #[]) (by rw [cell_of_row W p1 0 _ _ _ h1]; rfl)
  have c2 := cell_grown (lt_heap h2) (box2 h2).2.1
  have c3 := cell_grown (lt_heap h3) (box2 h3).2.1
  have c4 := cell_grown (lt_heap hga) hca
  have c5 := cell_grown (lt_heap hgb) hcb
  have hm : need n 64 ≤ 65536 := by rw [need64]; omega
  have HT := fun w => hide1 (hT (chunk 64 la i) (chunk 64 lb i) w (chunk64_lt _ _) (chunk64_lt _ _))
  clear h1 h2 h3 hva hvb hga hgb hca hcb hT
  go_enter Try.func54, Try.ntmps54
  go_wp2
  refine wp_region_quiet_grown (by assumption) (by kernel_rfl) ?_
  repeat (go_big_quiet_step (exact Calls.grown_of (HT _).out))
  refine wpQuiet_nil ?_
  intro w1 hw1
  obtain ⟨⟨nq, osq⟩, rfl⟩ := hw1
  go_wp2
  go_ret
  exact ⟨rfl, nq, osq, rfl⟩

end Go.Proofs.Ytnpanmdajcbbfaa
