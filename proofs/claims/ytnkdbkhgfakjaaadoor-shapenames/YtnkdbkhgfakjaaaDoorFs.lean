/- Regions that draw: what is not wanted is passed by; a whole row is stored. -/
import Derived.Test.YtnkdbkhgfakjaaaDoorFr
namespace Go.Proofs.YtnkdbkhgfakjaaaDoor
open Go.RowKit
theorem skip_p {P : Program} {ops : Array Oper} {Q : Exit → Act → World → Prop} {md : Region.Mode} {S : World → Prop} {F : List Nat} (i d : Nat) {oi : Oper} {fuel : Nat} {listed : Array Bool} {tmps : Array Value} {ds : List Deferred} {w : World} (hi : ops[i]? = some oi) (hd : oi.dst = some d)
    (hs : Region.noSelect ops = true) (hf : Region.free md ops listed i = true) (hr : (Region.ready md ops listed).contains i = true)
    (hQ : ∀ c a w, Q (.panic c) (a.put oi.dst undef) w → Q (.panic c) a w) (hw : Region.wanted oi (yielded ops tmps) = false)
    (h : wpAnyF P md ops Q S F fuel (listed.setIfInBounds i true) ⟨tmps.setIfInBounds d undef, ds⟩ w) : wpAnyF P md ops Q S F (fuel + 1) listed ⟨tmps, ds⟩ w :=
  front (R := fun _ => True) (J := Clear md ops i oi) hi (Region.noSelect_spec hs) hQ
    (fun L j hL hri hrj hne => ⟨(hL.next hri hrj hne).1, (hL.next hri hrj hne).2, fun _ _ _ _ => trivial⟩)
    fuel listed _ w (Region.free_spec hi hf) (by simpa using hr) (Or.inr ⟨hw, rfl⟩) trivial (by rw [hd]; exact h)
end Go.Proofs.YtnkdbkhgfakjaaaDoor
