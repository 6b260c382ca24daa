/- Lists of numbers: made of Errnos, and held against each other. -/
import Derived.Test.YtogninhgibbfnaaDoorHc
namespace Go.Proofs.YtogninhgibbfnaaDoor
open Go.RowKit Go.Shelf
set_option maxRecDepth 100000
attribute [local go_sem] not_any mf_any

/- a slice that reads as these numbers -/
def IntsAt (W : World) (v : Value) (l : List Int) : Prop :=
  ∃ a cap, v = .slice a l.length cap ∧ ∀ j x, l[j]? = some x → ∃ g, a = some ⟨g, 0, none⟩ ∧ W.cell? ⟨g, j, none⟩ = some (.int .i64 x)

theorem intsAt_own {W : World} {base : Nat} {e : TypeId} {v : Value} {l : List Int} (h : W.ownsRow base e 1 v l.length (ints l)) : IntsAt W v l := by
  have hc := fun g => h.cells (g := g)
  rcases h.2 with ⟨rfl, h0⟩ | ⟨g, cap, cur, rfl, _⟩
  · refine ⟨none, 0, by rw [h0], fun j s hj => ?_⟩
    have : l = [] := by simpa using h0
    subst this
    simp at hj
  · refine ⟨_, cap, rfl, fun j s hj => ⟨g, rfl, ?_⟩⟩
    have := hc g rfl j (.int .i64 s) (by simp [ints, hj])
    rwa [addr_add] at this

theorem IntsAt.below {W W' : World} {v : Value} {l : List Int} (h : IntsAt W v l) (hB : Below W.heap.size W W') : IntsAt W' v l := by
  obtain ⟨a, cap, rfl, hc⟩ := h
  refine ⟨a, cap, rfl, fun j s hj => ?_⟩
  obtain ⟨g, h0, c0⟩ := hc j s hj
  exact ⟨g, h0, (hB.cell (p := ⟨g, _, none⟩) (lt_cell c0)).trans c0⟩

set_option maxHeartbeats 2000000 in
theorem ints_eq (W : World) (va vb : Value) (l : List Int) (ha : IntsAt W va l) (hb : IntsAt W vb l) (hl : l.length ≤ 1000000) :
    Calls Tryd.prog 11 #[va, vb] W fun e w' => e = .returned (.bool true) ∧ ∃ n, w' = W.drewN n := by
  obtain ⟨a, ca, rfl, ha⟩ := ha
  obtain ⟨b, cb, rfl, hb⟩ := hb
  have HA := hide1 ha
  have HB := hide1 hb
  clear ha hb
  go_enter Tryd.func11, Tryd.ntmps11
  go_wp2
  go_loopw [5] (fun i wr => ∃ k n : Nat, k ≤ l.length ∧ i = .int .i64 k ∧ wr = W.drewN n) (fun i _ => l.length - (intOf i).toNat)
  case atStart => exact ⟨0, 0, Nat.zero_le _, rfl, rfl⟩
  case round =>
    obtain ⟨k, n, hk, rfl, rfl⟩ := hrel
    by_cases hlt : k < l.length
    · obtain ⟨s, hs⟩ : ∃ s, l[k]? = some s := ⟨_, List.getElem?_eq_getElem hlt⟩
      obtain ⟨ga, rfl, hca⟩ := HA.out k s hs
      obtain ⟨gb, rfl, hcb⟩ := HB.out k s hs
      have hca' : (W.drewN n).cell? ⟨ga, k, none⟩ = some (.int .i64 s) := hca
      have hcb' : (W.drewN n).cell? ⟨gb, k, none⟩ = some (.int .i64 s) := hcb
      go_wp2
      go_quiet (fail)
      all_goals go_wp2
      exact ⟨⟨k + 1, n + nq, by omega, by go_num, rfl⟩, by simp [intOf]; omega⟩
    · have : k = l.length := by omega
      subst this
      go_wp2
      go_ret
      exact ⟨rfl, n, rfl⟩

set_option maxHeartbeats 2000000 in
theorem numbers_any (W : World) (v : Value) (l : List Int) (hv : IntsAt W v l) (hl : l.length ≤ 1000000) :
    Calls Tryd.prog 12 #[v] W fun e w' => ∃ ov, e = .returned ov ∧ w'.ownsRow W.heap.size 3 1 ov l.length (ints l) ∧ Below W.heap.size W w' := by
  obtain ⟨i0, hi, hz0, hz1, hz2⟩ := info_parts info3
  have HV := hide1 hv
  obtain ⟨a, cap, rfl, _⟩ := hv
  go_enter Tryd.func12, Tryd.ntmps12
  go_wp2
  go_loopw [3, 4] (fun ov i wr => ∃ k : Nat, k ≤ l.length ∧ i = .int .i64 k ∧ wr.ownsRow W.heap.size 3 1 ov k (ints (l.take k)) ∧ Below W.heap.size W wr) (fun _ i _ => l.length - (intOf i).toNat)
  case atStart => exact ⟨0, Nat.zero_le _, rfl, World.ownsRow_nil _ _ _ _, Below.refl _ _⟩
  case round =>
    obtain ⟨k, hk, rfl, hrow, hB⟩ := hrel
    by_cases hlt : k < l.length
    · obtain ⟨x, hx⟩ : ∃ x, l[k]? = some x := ⟨_, List.getElem?_eq_getElem hlt⟩
      obtain ⟨a', cap', hv', hc⟩ := HV.out.below hB
      cases hv'
      obtain ⟨g, rfl, c0⟩ := hc k x hx
      have hgl := lt_cell c0
      have HX := hide1 hx
      clear hx hc
      obtain ⟨la, lc, rfl⟩ := row_form hrow
      have HW := hide1 (And.intro hrow hB)
      clear hrow hB
      go_wp2_with (at_builtin; go_must (refine wpList_append_own _ rfl _ _ 29 rfl W.heap.size 3 i0 (.int .i64 0) 1 8 Tryd.underlying29 hi hz0 hz1 hz2 rfl (by decide) _ _ _ rfl (HW.out.1.alloc _) ⟨wr.heap.size, 0, none⟩ 1 1 [.int .i64 x] rfl rfl (cell_one_new _ _ _) (by simp [Value.oneCell']) (by unfold maxLen; omega) (by omega) (by have : W.heap.size ≤ wr.heap.size := HW.out.2.size; simp; omega) ?_); intro v' w1 hown' hgrow _)
      go_roundw
      case rel =>
        refine ⟨k + 1, by omega, by go_num, ?_, (HW.out.2.alloc HW.out.2.size _).grown hgrow (by have : W.heap.size ≤ wr.heap.size := HW.out.2.size; simp; omega) (fun b hb => (HW.out.1.lt b hb).1)⟩
        rw [take_snoc' l k x HX.out]
        simpa [ints] using hown'
      case measure => simp [intOf]; omega
    · have : k = l.length := by omega
      subst this
      go_wp2
      go_ret
      rw [List.take_length] at hrow
      exact ⟨_, rfl, hrow, hB⟩

end Go.Proofs.YtogninhgibbfnaaDoor
