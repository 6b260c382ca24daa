/- How the arguments are opened. -/
import Derived.Test.YtfnedohampmnoaaYy
import Derived.ProofKit
import Derived.OpenShut
import Derived.ShutString
import Derived.ChangeSame
import Derived.ChangeVars
import Derived.ChangeOld
import Derived.ChangeMaps5
import Derived.Below
import Derived.Deep.Grids
import Derived.Deep.Slices
import Derived.Carry
namespace Go.Proofs.Ytfnedohampmnoaa
open Go.ChangeShapes Go.WideShapes Go.RowKit Go.Deep
set_option maxRecDepth 100000

theorem own : ownKnob Try.prog.godebug = none := by kernel_rfl
theorem laidOut : laidOutB Try.prog = true := by kernel_rfl
theorem nat_u8 {n : Int} (h : (Lit.int .u8 n).wf = true) : ∃ a : Nat, n = (a : Int) ∧ a < 256 := by
  obtain ⟨h1, h2⟩ := bounds_u8 h
  exact ⟨n.toNat, by omega, by omega⟩
theorem six_list {α : Type} (l : List α) (h : l.length = 6) : ∃ a b c d e f, l = [a, b, c, d, e, f] := by
  match l, h with
  | [a, b, c, d, e, f], _ => exact ⟨a, b, c, d, e, f, rfl⟩
theorem cellsA : Try.prog.cellsOf 29 = 6 := by kernel_rfl
theorem cells3 : Try.prog.cellsOf 3 = 1 := by kernel_rfl
theorem cells5 : Try.prog.cellsOf 5 = 1 := by kernel_rfl
theorem cells9 : Try.prog.cellsOf 9 = 1 := by kernel_rfl

theorem open_cells {H : Type} {enc : TypeId × Value → H} {W : World} {base : Nat} {spare : Nat → Bool} {held : Bool} {fuel : Nat} {cs : List Value} {x : DataW H × List MemPlace} (hlen : cs.length = 6) (h2 : DataW.trod enc Try.prog W base spare held fuel 29 cs = some x) :
    ∃ (kd q i k : Int) (s : ByteArray) (b : Nat), cs = [.int .i64 kd, .int .i64 q, .int .i64 i, .int .i64 k, .string s, .int .u8 (b : Int)] ∧ b < 256 := by
  obtain ⟨xs, k, hk, hxy, _, hxl, hf⟩ := DataW.trod_struct Try.underlying29 h2
  have hxl' : xs.length = 6 := hxl
  clear hxl
  obtain ⟨y0, y1, y2, y3, y4, y5, rfl⟩ := six_list xs hxl'
  obtain ⟨v0, v1, v2, v3, v4, v5, rfl⟩ := six_list cs hlen
  have g0 := hf 0 _ rfl
  have g1 := hf 1 _ rfl
  have g2 := hf 2 _ rfl
  have g3 := hf 3 _ rfl
  have g4 := hf 4 _ rfl
  have g5 := hf 5 _ rfl
  simp [cells3, cells5, cells9] at g0 g1 g2 g3 g4 g5
  obtain ⟨q0, e0, _, f0⟩ := DataW.trod_int Try.underlying3 g0
  obtain ⟨q1, e1, _, f1⟩ := DataW.trod_int Try.underlying3 g1
  obtain ⟨q2, e2, _, f2⟩ := DataW.trod_int Try.underlying3 g2
  obtain ⟨q3, e3, _, f3⟩ := DataW.trod_int Try.underlying3 g3
  obtain ⟨q4, e4, _, f4⟩ := DataW.trod_string Try.underlying9 g4
  obtain ⟨q5, e5, _, f5⟩ := DataW.trod_int Try.underlying5 g5
  simp only [List.cons.injEq, and_true] at e0 e1 e2 e3 e4 e5
  subst e0; subst e1; subst e2; subst e3; subst e4; subst e5
  obtain ⟨a5, rfl, z5⟩ := nat_u8 f5
  exact ⟨q0, q1, q2, q3, q4, a5, rfl, z5⟩

/- one call, as an argument -/
theorem open_act {H : Type} {enc : TypeId × Value → H} {W : World} {r : Reach} {b0 : Nat} {base : Nat} {spare : Nat → Bool} {held : Bool} {v : Value} {d : DataW H} {p : List MemPlace}
    (hv : Value.okWide Try.prog W r b0 29 v) (h : DataW.Trod enc Try.prog W base spare held 29 v d p) :
    ∃ (kd q i k : Int) (s : ByteArray) (b : Nat), v = .agg #[.int .i64 kd, .int .i64 q, .int .i64 i, .int .i64 k, .string s, .int .u8 (b : Int)] ∧ b < 256 := by
  have hv' : ∃ cs, v = .agg cs ∧ cs.size = Try.prog.cellsOf 29 := by
    simp only [Value.okWide, Try.underlying29] at hv
    obtain ⟨cs, h1, h2, _⟩ := hv
    exact ⟨cs, h1, h2⟩
  obtain ⟨cs, rfl, hsz⟩ := hv'
  rw [cellsA] at hsz
  obtain ⟨fuel, hf⟩ := h
  have ec : (Value.agg cs).cells.toList = cs.toList := rfl
  rw [ec] at hf
  obtain ⟨kd, q, i, k, s, b, hcs, hb⟩ := open_cells (by simpa using hsz) hf
  refine ⟨kd, q, i, k, s, b, ?_, hb⟩
  have : cs = #[.int .i64 kd, .int .i64 q, .int .i64 i, .int .i64 k, .string s, .int .u8 (b : Int)] := by
    apply Array.toList_inj.1
    rw [hcs]
  rw [this]

theorem add_plain (g o j : Nat) : (⟨g, o, none⟩ : Addr).add j = ⟨g, o + j, none⟩ := by unfold Addr.add; split <;> simp_all

/- the calls, opened -/
theorem open_acts {H : Type} {enc : TypeId × Value → H} {W : World} {held : Bool} {fuel : Nat} {a : Option Addr} {len cap : Nat} {x : DataW H × List MemPlace} (h : DataW.trod enc Try.prog W 0 (fun _ => true) held fuel 22 [.slice a len cap] = some x) : Ac W len a := by
  rcases open_slice Try.underlying22 h with ⟨h0, _⟩ | ⟨ad, len', cap', m, n, D, Pl, hcs, _, hl, _, hmm, _, hx⟩
  · cases h0
    intro j hj
    omega
  cases hcs
  have hlm : len ≤ m := by rw [hmm]; split <;> omega
  intro j hj
  obtain ⟨cs', h1, h2⟩ := hx j (by omega)
  rw [cellsA] at h1
  obtain ⟨_, hlen, hcell⟩ := World.cells?_some h1
  obtain ⟨kd, q, i, k, s, b, hcs, hb⟩ := open_cells hlen h2
  subst hcs
  have c0 := hcell 0 (by simp)
  have c1 := hcell 1 (by simp)
  have c2 := hcell 2 (by simp)
  have c3 := hcell 3 (by simp)
  have c4 := hcell 4 (by simp)
  have c5 := hcell 5 (by simp)
  rw [add_add] at c0 c1 c2 c3 c4 c5
  have hsp : ad.spot = none := by
    obtain ⟨cs0, k1, k2⟩ := hx 0 (by omega)
    rw [cellsA] at k1
    obtain ⟨_, klen, kcell⟩ := World.cells?_some k1
    obtain ⟨y0, y1, y2, y3, y4, y5, rfl⟩ := six_list cs0 klen
    have k0 := kcell 0 (by simp)
    rw [add_add] at k0
    have := World.cell?_spot k0
    simpa [Addr.add] using this
  obtain ⟨g, o, sp0⟩ := ad
  simp only at hsp
  subst hsp
  rw [add_plain] at c0 c1 c2 c3 c4 c5
  exact ⟨g, o, kd, q, i, k, s, b, rfl, hb, ⟨by simpa using c0, by simpa [Nat.add_assoc] using c1, by simpa [Nat.add_assoc] using c2, by simpa [Nat.add_assoc] using c3, by simpa [Nat.add_assoc] using c4, by simpa [Nat.add_assoc] using c5⟩⟩

end Go.Proofs.Ytfnedohampmnoaa
