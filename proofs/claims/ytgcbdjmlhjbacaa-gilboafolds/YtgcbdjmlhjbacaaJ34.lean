/- Lists of words opened, with their room. -/
import Derived.Test.YtgcbdjmlhjbacaaJ17
import Derived.Test.YtgcbdjmlhjbacaaJ33
namespace Go.Proofs.Ytgcbdjmlhjbacaa.Gi
open Go.ChangeShapes Go.WideShapes Go.RowKit Go.Deep

theorem cells_w : Try.prog.cellsOf 44 = 1 := by kernel_rfl
theorem open_words {H : Type} {enc : TypeId × Value → H} {W : World} {held : Bool} {fuel : Nat} {a : Option Addr} {len cap : Nat} {x : DataW H × List MemPlace} (h : DataW.trod enc Try.prog W 0 (fun _ => true) held fuel 22 [.slice a len cap] = some x) :
    ∃ ws : List Nat, Ri.Nl W len a ws ∧ Ri.Small ws := by
  rcases open_ints Try.underlying22 Try.underlying44 cells_w h with ⟨h0, _⟩ | ⟨ad, l', c', zs, hcs, _, hl, hm, hz, _, hcell, hwz⟩
  · cases h0
    exact ⟨[], ⟨rfl, fun j x hj => by simp at hj⟩, fun j x hj => by simp at hj⟩
  · cases hcs
    have hz' : zs.length = cap := by simpa using hz
    have hb : ∀ j, j < zs.length → 0 ≤ zs.getD j 0 ∧ zs.getD j 0 ≤ 18446744073709551615 := fun j hj => by
      have hmem : zs.getD j 0 ∈ zs := by
        rw [List.getD_eq_getElem?_getD, List.getElem?_eq_getElem hj]
        exact List.getElem_mem hj
      exact bounds_u64 (hwz _ hmem)
    have hget : ∀ (j x : Nat), ((List.range len).map (fun i => (zs.getD i 0).toNat))[j]? = some x → j < len ∧ x = (zs.getD j 0).toNat := fun j x hj => by
      have hjl : j < len := by
        have := (List.getElem?_eq_some_iff.1 hj).1
        simpa using this
      rw [List.getElem?_map, List.getElem?_range hjl] at hj
      exact ⟨hjl, (Option.some.inj hj).symm⟩
    refine ⟨(List.range len).map (fun i => (zs.getD i 0).toNat), ⟨by simp, fun j x hj => ?_⟩, fun j x hj => ?_⟩
    · obtain ⟨hjl, rfl⟩ := hget j x hj
      have hc := hcell j (by omega)
      have hsp : ad.spot = none := by
        have := World.cell?_spot (hcell 0 (by omega))
        simpa [Addr.add] using this
      obtain ⟨g, o, sp0⟩ := ad
      simp only at hsp
      subst hsp
      refine ⟨g, o, rfl, ?_⟩
      have e : (⟨g, o, none⟩ : Addr).add j = ⟨g, o + j, none⟩ := by unfold Addr.add; split <;> simp_all
      rw [e] at hc
      rw [hc]
      have := hb j (by omega)
      congr 2
      omega
    · obtain ⟨hjl, rfl⟩ := hget j x hj
      have := hb j (by omega)
      omega

theorem nl_cap {H : Type} {enc : TypeId × Value → H} {W : World} {held : Bool} {fuel : Nat} {a : Option Addr} {len cap : Nat} {x : DataW H × List MemPlace} (h : DataW.trod enc Try.prog W 0 (fun _ => true) held fuel 22 [.slice a len cap] = some x) : len ≤ cap := by
  rcases open_ints Try.underlying22 Try.underlying44 cells_w h with ⟨h0, _⟩ | ⟨ad, l', c', zs, hcs, _, hl, _⟩
  · cases h0
    exact Nat.le_refl _
  · cases hcs
    exact hl
end Go.Proofs.Ytgcbdjmlhjbacaa.Gi
