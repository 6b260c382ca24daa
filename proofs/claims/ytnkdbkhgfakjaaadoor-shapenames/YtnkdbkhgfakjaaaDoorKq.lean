/- How the arguments are opened. -/
import Derived.Test.YtnkdbkhgfakjaaaDoorKm
import Derived.ProofKit
import Derived.OpenShut
import Derived.ShutString
import Derived.ChangeSame
import Derived.ChangeVars
import Derived.ChangeOld
import Derived.ChangeMaps5
import Derived.Below
import Derived.Deep.Grids
import Derived.Deep.Slices
namespace Go.Proofs.YtnkdbkhgfakjaaaDoor
open Go.ChangeShapes Go.WideShapes Go.RowKit Go.Deep

theorem own : ownKnob Tryd.prog.godebug = none := by kernel_rfl
theorem laidOut : laidOutB Tryd.prog = true := by kernel_rfl

theorem five_list {α : Type} (l : List α) (h : l.length = 5) : ∃ a b c d e, l = [a, b, c, d, e] := by
  match l, h with
  | [a, b, c, d, e], _ => exact ⟨a, b, c, d, e, rfl⟩

theorem open_cls {H : Type} {enc : TypeId × Value → H} {W : World} {r : Reach} {b0 : Nat} {base : Nat} {spare : Nat → Bool} {held : Bool} {v : Value} {d : DataW H} {p : List MemPlace}
    (hv : Value.okWide Tryd.prog W r b0 23 v) (h : DataW.Trod enc Tryd.prog W base spare held 23 v d p) : ∃ k b m q n : Int, v = cls k b m q n ∧ ((-9223372036854775808 ≤ k ∧ k ≤ 9223372036854775807) ∧ (-9223372036854775808 ≤ b ∧ b ≤ 9223372036854775807) ∧ (-9223372036854775808 ≤ m ∧ m ≤ 9223372036854775807) ∧ (-9223372036854775808 ≤ q ∧ q ≤ 9223372036854775807) ∧ (-9223372036854775808 ≤ n ∧ n ≤ 9223372036854775807)) := by
  have c23 : Tryd.prog.cellsOf 23 = 5 := by kernel_rfl
  have cells3 : Tryd.prog.cellsOf 3 = 1 := by kernel_rfl
  have hv' : ∃ cs, v = .agg cs ∧ cs.size = Tryd.prog.cellsOf 23 := by
    simp only [Value.okWide, Tryd.underlying23] at hv
    obtain ⟨cs, h1, h2, _⟩ := hv
    exact ⟨cs, h1, h2⟩
  obtain ⟨cs, rfl, hsz⟩ := hv'
  rw [c23] at hsz
  obtain ⟨fuel, hf⟩ := h
  obtain ⟨xs, k, hk, hxy, _, hxl, hf⟩ := DataW.trod_struct Tryd.underlying23 hf
  have hxl' : xs.length = 5 := hxl
  clear hxl
  obtain ⟨y0, y1, y2, y3, y4, rfl⟩ := five_list xs hxl'
  obtain ⟨v0, v1, v2, v3, v4, hcs⟩ := five_list cs.toList (by simpa using hsz)
  have g0 := hf 0 _ rfl
  have g1 := hf 1 _ rfl
  have g2 := hf 2 _ rfl
  have g3 := hf 3 _ rfl
  have g4 := hf 4 _ rfl
  have ec : (Value.agg cs).cells.toList = [v0, v1, v2, v3, v4] := hcs
  rw [ec] at g0 g1 g2 g3 g4
  simp [cells3] at g0 g1 g2 g3 g4
  obtain ⟨q0, e0, _, f0⟩ := DataW.trod_int Tryd.underlying3 g0
  obtain ⟨q1, e1, _, f1⟩ := DataW.trod_int Tryd.underlying3 g1
  obtain ⟨q2, e2, _, f2⟩ := DataW.trod_int Tryd.underlying3 g2
  obtain ⟨q3, e3, _, f3⟩ := DataW.trod_int Tryd.underlying3 g3
  obtain ⟨q4, e4, _, f4⟩ := DataW.trod_int Tryd.underlying3 g4
  simp only [List.cons.injEq, and_true] at e0 e1 e2 e3 e4
  subst e0; subst e1; subst e2; subst e3; subst e4
  refine ⟨q0, q1, q2, q3, q4, ?_, bounds_i64 f0, bounds_i64 f1, bounds_i64 f2, bounds_i64 f3, bounds_i64 f4⟩
  have : cs = #[.int .i64 q0, .int .i64 q1, .int .i64 q2, .int .i64 q3, .int .i64 q4] := by
    apply Array.toList_inj.1
    rw [hcs]
  rw [this]
  rfl

end Go.Proofs.YtnkdbkhgfakjaaaDoor
