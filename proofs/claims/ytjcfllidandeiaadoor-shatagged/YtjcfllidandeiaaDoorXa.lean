/- How a list of texts that came in is opened, and how long its texts are. -/
import Derived.Test.YtjcfllidandeiaaDoorX
import Derived.Test.YtjcfllidandeiaaDoorOh
import Derived.SliceStrings
namespace Go.Proofs.YtjcfllidandeiaaDoor
open Go.ChangeShapes Go.WideShapes Go.RowKit

theorem cells9 : Tryd.prog.cellsOf 9 = 1 := by kernel_rfl

theorem weights_strs {H : Type} {R : Nat} : ∀ (ss : List ByteArray), (DataW.weightsAll Tryd.prog 9 (strs (H := H) ss)).all (· ≤ R) = true → ∀ s ∈ ss, s.size ≤ R
  | [], _, s, hs => by cases hs
  | x :: ss, h, s, hs => by
    have h' : (DataW.weights Tryd.prog 9 (.lit (.string x.data.toList) : DataW H) ++ DataW.weightsAll Tryd.prog 9 (strs (H := H) ss)).all (· ≤ R) = true := h
    rw [List.all_append, Bool.and_eq_true] at h'
    obtain ⟨h1, h2⟩ := h'
    rcases List.mem_cons.1 hs with rfl | hs
    · simp [DataW.weights] at h1
      exact h1
    · exact weights_strs ss h2 s hs

theorem open_txts {H : Type} {enc : TypeId × Value → H} {W : World} {held : Bool} {fuel : Nat} {a : Option Addr} {len cap : Nat} {x : DataW H × List MemPlace} (h : DataW.trod enc Tryd.prog W 0 (fun _ => true) held fuel 29 [.slice a len cap] = some x) :
    ∃ L : List ByteArray, Txts W len a L ∧ ((x.1.weights Tryd.prog 29).all (· ≤ reachBytes) = true → ∀ j, j < len → (L.getD j ByteArray.empty).size ≤ reachBytes) := by
  rcases open_strings Tryd.underlying29 Tryd.underlying9 cells9 h with ⟨h0, _⟩ | ⟨ad, l', c', ss, hcs, _, hl, hm, hz, hx, hcell, hwz⟩
  · cases h0
    exact ⟨[], ⟨fun j hj => by omega⟩, fun _ j hj => by omega⟩
  · cases hcs
    have hz' : ss.length = cap := by simpa using hz
    refine ⟨ss, ⟨fun j hj => ?_⟩, fun hw j hj => ?_⟩
    · have hc := hcell j (by omega)
      have hsp : ad.spot = none := by
        have := World.cell?_spot (hcell 0 (by omega))
        simpa [Addr.add] using this
      obtain ⟨g, o, sp0⟩ := ad
      simp only at hsp
      subst hsp
      refine ⟨g, o, rfl, ?_⟩
      rw [Addr.add_lit] at hc
      exact hc
    · rw [hx] at hw
      simp only [DataW.weights, Tryd.underlying29, List.all_cons, List.all_append, Bool.and_eq_true] at hw
      refine weights_strs (ss.take len) hw.2.1 _ ?_
      rw [List.getD_eq_getElem?_getD, List.getElem?_eq_getElem (by omega)]
      rw [List.mem_take_iff_getElem]
      exact ⟨j, by omega, rfl⟩

end Go.Proofs.YtjcfllidandeiaaDoor
