/- How the arguments are opened. -/
import Derived.Test.YtcgpokbijaioiaaDoorXd
import Derived.ProofKit
import Derived.OpenShut
import Derived.ShutString
import Derived.ChangeSame
import Derived.ChangeVars
import Derived.ChangeOld
import Derived.ChangeMaps5
import Derived.Below
import Derived.Deep.Grids
import Derived.Deep.Slices
namespace Go.Proofs.YtcgpokbijaioiaaDoor
open Go.ChangeShapes Go.WideShapes Go.RowKit Go.Deep
set_option maxRecDepth 100000

theorem nat_u32 {n : Int} (h : (Lit.int .u32 n).wf = true) : ∃ a : Nat, n = (a : Int) ∧ a < 4294967296 := by
  obtain ⟨h1, h2⟩ := bounds_u32 h
  exact ⟨n.toNat, by omega, by omega⟩
theorem six_list {α : Type} (l : List α) (h : l.length = 6) : ∃ a b c d e f, l = [a, b, c, d, e, f] := by
  match l, h with
  | [a, b, c, d, e, f], _ => exact ⟨a, b, c, d, e, f, rfl⟩

theorem open_fra {H : Type} {enc : TypeId × Value → H} {W : World} {r : Reach} {b0 : Nat} {base : Nat} {spare : Nat → Bool} {held : Bool} {v : Value} {d : DataW H} {p : List MemPlace}
    (hv : Value.okWide Tryd.prog W r b0 24 v) (h : DataW.Trod enc Tryd.prog W base spare held 24 v d p) :
    ∃ (k : Int) (o p q a : Nat) (b : ByteArray), v = fra k o p q a b ∧ o < 4294967296 ∧ p < 4294967296 ∧ q < 4294967296 ∧ a < 4294967296 := by
  have c24 : Tryd.prog.cellsOf 24 = 6 := by kernel_rfl
  have cells3 : Tryd.prog.cellsOf 3 = 1 := by kernel_rfl
  have cellsU : Tryd.prog.cellsOf 22 = 1 := by kernel_rfl
  have cells9 : Tryd.prog.cellsOf 9 = 1 := by kernel_rfl
  have hv' : ∃ cs, v = .agg cs ∧ cs.size = Tryd.prog.cellsOf 24 := by
    simp only [Value.okWide, Tryd.underlying24] at hv
    obtain ⟨cs, h1, h2, _⟩ := hv
    exact ⟨cs, h1, h2⟩
  obtain ⟨cs, rfl, hsz⟩ := hv'
  rw [c24] at hsz
  obtain ⟨fuel, hf⟩ := h
  obtain ⟨xs, k, hk, hxy, _, hxl, hf⟩ := DataW.trod_struct Tryd.underlying24 hf
  have hxl' : xs.length = 6 := hxl
  clear hxl
  obtain ⟨y0, y1, y2, y3, y4, y5, rfl⟩ := six_list xs hxl'
  obtain ⟨v0, v1, v2, v3, v4, v5, hcs⟩ := six_list cs.toList (by simpa using hsz)
  have g0 := hf 0 _ rfl
  have g1 := hf 1 _ rfl
  have g2 := hf 2 _ rfl
  have g3 := hf 3 _ rfl
  have g4 := hf 4 _ rfl
  have g5 := hf 5 _ rfl
  have ec : (Value.agg cs).cells.toList = [v0, v1, v2, v3, v4, v5] := hcs
  rw [ec] at g0 g1 g2 g3 g4 g5
  simp [cells3, cellsU, cells9] at g0 g1 g2 g3 g4 g5
  obtain ⟨q0, e0, _, f0⟩ := DataW.trod_int Tryd.underlying3 g0
  obtain ⟨q1, e1, _, f1⟩ := DataW.trod_int Tryd.underlying22 g1
  obtain ⟨q2, e2, _, f2⟩ := DataW.trod_int Tryd.underlying22 g2
  obtain ⟨q3, e3, _, f3⟩ := DataW.trod_int Tryd.underlying22 g3
  obtain ⟨q4, e4, _, f4⟩ := DataW.trod_int Tryd.underlying22 g4
  obtain ⟨q5, e5, _, _⟩ := DataW.trod_string Tryd.underlying9 g5
  simp only [List.cons.injEq, and_true] at e0 e1 e2 e3 e4 e5
  subst e0; subst e1; subst e2; subst e3; subst e4; subst e5
  obtain ⟨a1, rfl, z1⟩ := nat_u32 f1
  obtain ⟨a2, rfl, z2⟩ := nat_u32 f2
  obtain ⟨a3, rfl, z3⟩ := nat_u32 f3
  obtain ⟨a4, rfl, z4⟩ := nat_u32 f4
  refine ⟨q0, a1, a2, a3, a4, q5, ?_, z1, z2, z3, z4⟩
  have : cs = #[.int .i64 q0, .int .u32 (a1 : Int), .int .u32 (a2 : Int), .int .u32 (a3 : Int), .int .u32 (a4 : Int), .string q5] := by
    apply Array.toList_inj.1
    rw [hcs]
  rw [this]
  rfl

end Go.Proofs.YtcgpokbijaioiaaDoor
