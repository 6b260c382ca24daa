/- How the arguments are opened. How the arguments are opened. -/
import Derived.Test.YtdahnbojnleboaaJ26
import Derived.ProofKit
import Derived.OpenShut
import Derived.ShutString
import Derived.ChangeOld
import Derived.Below
import Derived.Deep.Grids
import Derived.Test.YtdahnbojnleboaaJ34
import Derived.Deep.Slices
import Derived.ChangeSame
import Derived.ChangeVars
import Derived.Carry
namespace Go.Proofs.Ytdahnbojnleboaa.T
open Go.ChangeShapes Go.WideShapes Go.RowKit Go.Deep

theorem own : ownKnob Try.prog.godebug = none := by kernel_rfl
theorem laidOut : laidOutB Try.prog = true := by kernel_rfl
theorem cells4 : Try.prog.cellsOf 4 = 1 := by kernel_rfl

theorem open_bl {H : Type} {enc : TypeId × Value → H} {W : World} {held : Bool} {fuel : Nat} {a : Option Addr} {len cap : Nat} {x : DataW H × List MemPlace} (h : DataW.trod enc Try.prog W 0 (fun _ => true) held fuel 25 [.slice a len cap] = some x) :
    ∃ l : List Bool, Bl W len a l := by
  rcases open_bools Try.underlying25 Try.underlying4 cells4 h with ⟨h0, _⟩ | ⟨ad, l', c', B, hcs, _, hl, _, _, hcell⟩
  · cases h0
    exact ⟨[], rfl, fun j x hj => by simp at hj⟩
  · cases hcs
    refine ⟨(List.range len).map B, by simp, fun j x hj => ?_⟩
    have hjl : j < len := by
      have := (List.getElem?_eq_some_iff.1 hj).1
      simpa using this
    have hx : x = B j := by
      simp [hjl] at hj
      exact hj.symm
    subst hx
    have hc := hcell j (by omega)
    have hsp : ad.spot = none := by
      have := World.cell?_spot (hcell 0 (by omega))
      simpa [Addr.add] using this
    obtain ⟨g, o, sp0⟩ := ad
    simp only at hsp
    subst hsp
    refine ⟨g, o, rfl, ?_⟩
    have e : (⟨g, o, none⟩ : Addr).add j = ⟨g, o + j, none⟩ := by unfold Addr.add; split <;> simp_all
    rwa [e] at hc

end Go.Proofs.Ytdahnbojnleboaa.T

namespace Go.Proofs.Ytdahnbojnleboaa.T
open Go.ChangeShapes Go.WideShapes Go.RowKit Go.Deep
set_option maxRecDepth 100000

theorem cells39 : Try.prog.cellsOf 28 = 2 := by kernel_rfl
theorem cells37 : Try.prog.cellsOf 24 = 1 := by kernel_rfl
theorem two_list {α : Type} (l : List α) (h : l.length = 2) : ∃ a b, l = [a, b] := by
  match l, h with
  | [a, b], _ => exact ⟨a, b, rfl⟩
theorem open_rows {H : Type} {enc : TypeId × Value → H} {W : World} {held : Bool} {fuel : Nat} {a : Option Addr} {len cap : Nat} {x : DataW H × List MemPlace} (h : DataW.trod enc Try.prog W 0 (fun _ => true) held fuel 45 [.slice a len cap] = some x) : (∃ R, Rws W len a R) ∧ len ≤ cap := by
  rcases open_slice Try.underlying45 h with ⟨h0, _⟩ | ⟨ad, len', cap', m, n, D, Pl, hcs, _, hl, _, hmm, hx0, hx⟩
  · cases h0
    exact ⟨⟨fun _ _ => 0, fun j hj => by omega, fun _ _ => by omega⟩, Nat.le_refl _⟩
  cases hcs
  have hlm : len ≤ m := by rw [hmm]; split <;> omega
  refine ⟨?_, hl⟩
  have each : ∀ j, ∃ q : Nat × Nat, q.1 < 18446744073709551616 ∧ q.2 < 18446744073709551616 ∧ (j < len → ∃ g o, ad = ⟨g, o, none⟩ ∧ W.cell? ⟨g, o + j * 2, none⟩ = some (.int .u64 (q.1 : Nat)) ∧ W.cell? ⟨g, o + j * 2 + 1, none⟩ = some (.int .u64 (q.2 : Nat))) := by
    intro j
    by_cases hj : j < len
    · obtain ⟨cs', h1, h2⟩ := hx j (by omega)
      rw [cells39] at h1
      obtain ⟨_, hlen, hcell⟩ := World.cells?_some h1
      obtain ⟨xs, k, hk, hxy, _, hn, hel⟩ := DataW.trod_array Try.underlying28 h2
      obtain ⟨v0, v1, rfl⟩ := two_list cs' hlen
      obtain ⟨y0, y1, rfl⟩ := two_list xs hn
      have g0 := hel 0 (by omega)
      have g1 := hel 1 (by omega)
      simp [cells37] at g0 g1
      obtain ⟨q0, e0, _, wf0⟩ := DataW.trod_int Try.underlying24 g0
      obtain ⟨q1, e1, _, wf1⟩ := DataW.trod_int Try.underlying24 g1
      simp only [List.cons.injEq, and_true] at e0 e1
      subst e0; subst e1
      obtain ⟨b0, b0'⟩ := bounds_u64 wf0
      obtain ⟨b1, b1'⟩ := bounds_u64 wf1
      have hc0 := hcell 0 (by omega)
      have hc1 := hcell 1 (by omega)
      refine ⟨(q0.toNat, q1.toNat), by simp; omega, by simp; omega, fun _ => ?_⟩
      rw [add_add] at hc0 hc1
      have hsp : ad.spot = none := by
        obtain ⟨cs0, k1, _⟩ := hx 0 (by omega)
        rw [cells39] at k1
        obtain ⟨_, klen, kcell⟩ := World.cells?_some k1
        obtain ⟨y0, y1, rfl⟩ := two_list cs0 klen
        have k0 := kcell 0 (by simp)
        rw [add_add] at k0
        have := World.cell?_spot k0
        simpa [Addr.add] using this
      obtain ⟨g, o, sp0⟩ := ad
      simp only at hsp
      subst hsp
      rw [addr_add] at hc0 hc1
      refine ⟨g, o, rfl, ?_, ?_⟩
      · rw [Int.toNat_of_nonneg b0]; simpa [cells39] using hc0
      · rw [Int.toNat_of_nonneg b1]; simpa [cells39, Nat.add_assoc] using hc1
    · exact ⟨(0, 0), by decide, by decide, fun h => absurd h hj⟩
  refine ⟨fun j p => if p = 0 then (Classical.choose (each j)).1 else (Classical.choose (each j)).2, fun j hj => ?_, fun j p => ?_⟩
  · obtain ⟨_, _, h3⟩ := Classical.choose_spec (each j)
    obtain ⟨g, o, rfl, c0, c1⟩ := h3 hj
    exact ⟨g, o, rfl, c0, c1⟩
  · obtain ⟨h1, h2, _⟩ := Classical.choose_spec (each j)
    by_cases hp : p = 0
    · simp only [if_pos hp]; exact h1
    · simp only [if_neg hp]; exact h2
end Go.Proofs.Ytdahnbojnleboaa.T
