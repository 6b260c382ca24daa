/- How a list of words that came in is opened. -/
import Derived.Test.YtldopgngbnjlnaaQ
import Derived.Test.YtldopgngbnjlnaaVK
namespace Go.Proofs.Ytldopgngbnjlnaa
open Go.ChangeShapes Go.WideShapes Go.RowKit Go.Deep

theorem cells47 : Try.prog.cellsOf 47 = 1 := by kernel_rfl

theorem open_nl0 {H : Type} {enc : TypeId × Value → H} {W : World} {held : Bool} {fuel : Nat} {a : Option Addr} {len cap : Nat} {x : DataW H × List MemPlace} (h : DataW.trod enc Try.prog W 0 (fun _ => true) held fuel 31 [.slice a len cap] = some x) :
    ∃ ws : List Nat, V.Nl W len a ws ∧ ∀ (j x : Nat), ws[j]? = some x → x < 18446744073709551616 := by
  rcases open_ints Try.underlying31 Try.underlying47 cells47 h with ⟨h0, _⟩ | ⟨ad, l', c', zs, hcs, _, hl, hm, hz, _, hcell, hwz⟩
  · cases h0
    exact ⟨[], ⟨rfl, fun j x hj => by simp at hj⟩, fun j x hj => by simp at hj⟩
  · cases hcs
    have hz' : zs.length = cap := by simpa using hz
    have hb : ∀ j, j < zs.length → 0 ≤ zs.getD j 0 ∧ zs.getD j 0 ≤ 18446744073709551615 := fun j hj => by
      have hmem : zs.getD j 0 ∈ zs := by
        rw [List.getD_eq_getElem?_getD, List.getElem?_eq_getElem hj]
        exact List.getElem_mem hj
      exact bounds_u64 (hwz _ hmem)
    have hget : ∀ (j x : Nat), ((List.range len).map (fun i => (zs.getD i 0).toNat))[j]? = some x → j < len ∧ x = (zs.getD j 0).toNat := fun j x hj => by
      have hjl : j < len := by
        have := (List.getElem?_eq_some_iff.1 hj).1
        simpa using this
      rw [List.getElem?_map, List.getElem?_range hjl] at hj
      exact ⟨hjl, (Option.some.inj hj).symm⟩
    refine ⟨(List.range len).map (fun i => (zs.getD i 0).toNat), ⟨by simp, fun j x hj => ?_⟩, fun j x hj => ?_⟩
    · obtain ⟨hjl, rfl⟩ := hget j x hj
      have hc := hcell j (by omega)
      have hsp : ad.spot = none := by
        have := World.cell?_spot (hcell 0 (by omega))
        simpa [Addr.add] using this
      obtain ⟨g, o, sp0⟩ := ad
      simp only at hsp
      subst hsp
      refine ⟨g, o, rfl, ?_⟩
      have e : (⟨g, o, none⟩ : Addr).add j = ⟨g, o + j, none⟩ := by unfold Addr.add; split <;> simp_all
      rw [e] at hc
      rw [hc]
      have := hb j (by omega)
      congr 2
      omega
    · obtain ⟨hjl, rfl⟩ := hget j x hj
      have := hb j (by omega)
      omega

theorem open_nl {H : Type} {enc : TypeId × Value → H} {W : World} {held : Bool} {fuel : Nat} {a : Option Addr} {len cap : Nat} {x : DataW H × List MemPlace} (h : DataW.trod enc Try.prog W 0 (fun _ => true) held fuel 31 [.slice a len cap] = some x) :
    ∃ ws : List Nat, V.Nl W len a ws ∧ Lt 18446744073709551616 ws := by
  obtain ⟨ws, h1, h2⟩ := open_nl0 h
  refine ⟨ws, h1, fun x hx => ?_⟩
  obtain ⟨j, hj⟩ := List.getElem?_of_mem hx
  exact h2 j x hj

end Go.Proofs.Ytldopgngbnjlnaa
