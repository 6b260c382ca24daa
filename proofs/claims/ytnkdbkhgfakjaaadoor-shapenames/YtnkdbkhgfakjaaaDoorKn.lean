/- Regions that draw, whose calls only make memory, and whose values are told. -/
import Derived.Test.YtnkdbkhgfakjaaaDoorKm
namespace Go.Proofs.YtnkdbkhgfakjaaaDoor
open Go.RowKit

/- a world in which all that was there in W is as it was -/
structure Bw (W : World) where
  w : World
  h : Below W.heap.size W w
theorem wp_region_quiet_bw {P : Program} {id : Nat} {Q : Exit → Act → World → Prop} {a : Act} {w : World} {l : List Oper} (hm : P.follows .mixedOrders = true) (hB : Region.lexB .any l.toArray = true)
    (h : wpQuiet P l.toArray (fun w' => ∃ p : Bw w, w' = p.w) (fun a' => ∀ w', (∃ p : Bw w, w' = p.w) → Q .normal a' w') l a) : (Code.region id l.toArray true).wp P Q a w :=
  wp_region_quiet (C := fun w' => ∃ p : Bw w, w' = p.w) hm hB ⟨⟨w.drew, (Below.refl _ _).drew⟩, rfl⟩ (by simpa using h)
theorem bw_of {P : Program} {f : FuncId} {args : Array Value} {W : World} {p : Bw W} {v : Value}
    (h : Calls P f args p.w fun e w' => e = .returned v ∧ Below p.w.heap.size p.w w') : Calls P f args p.w fun e w'' => e = .returned v ∧ ∃ p : Bw W, w'' = p.w :=
  h.mono fun _ w'' ⟨he, hb⟩ => ⟨he, ⟨w'', p.h.trans (hb.mono p.h.size)⟩, rfl⟩
theorem bw_cell {W : World} {a : Addr} {v : Value} (h : W.cell? a = some v) (p : Bw W) : p.w.cell? a = some v := (p.h.cell (block_lt_of_cell h)).trans h

end Go.Proofs.YtnkdbkhgfakjaaaDoor
