/- How the arguments are opened. -/
import Derived.Test.YtjingknkjokldaaVy
import Derived.ProofKit
import Derived.OpenShut
import Derived.ShutString
import Derived.ChangeSame
import Derived.ChangeVars
import Derived.ChangeOld
import Derived.ChangeMaps5
import Derived.Below
import Derived.Deep.Grids
import Derived.Deep.Slices
import Derived.Carry
namespace Go.Proofs.Ytjingknkjokldaa
open Go.ChangeShapes Go.WideShapes Go.RowKit Go.Deep
set_option maxRecDepth 100000

theorem own : ownKnob Try.prog.godebug = none := by kernel_rfl
theorem laidOut : laidOutB Try.prog = true := by kernel_rfl
theorem nat_u32 {n : Int} (h : (Lit.int .u32 n).wf = true) : ∃ a : Nat, n = (a : Int) ∧ a < 4294967296 := by
  obtain ⟨h1, h2⟩ := bounds_u32 h
  exact ⟨n.toNat, by omega, by omega⟩
theorem nat_u8 {n : Int} (h : (Lit.int .u8 n).wf = true) : ∃ a : Nat, n = (a : Int) ∧ a < 256 := by
  obtain ⟨h1, h2⟩ := bounds_u8 h
  exact ⟨n.toNat, by omega, by omega⟩
theorem three_list {α : Type} (l : List α) (h : l.length = 3) : ∃ a b c, l = [a, b, c] := by
  match l, h with
  | [a, b, c], _ => exact ⟨a, b, c, rfl⟩
theorem one_list {α : Type} (l : List α) (h : l.length = 1) : ∃ a, l = [a] := by
  match l, h with
  | [a], _ => exact ⟨a, rfl⟩
theorem cellsA : Try.prog.cellsOf 31 = 3 := by kernel_rfl
theorem cells3 : Try.prog.cellsOf 3 = 1 := by kernel_rfl
theorem cells4 : Try.prog.cellsOf 4 = 1 := by kernel_rfl
theorem cells5 : Try.prog.cellsOf 5 = 1 := by kernel_rfl
theorem cells9 : Try.prog.cellsOf 9 = 1 := by kernel_rfl
theorem cells22 : Try.prog.cellsOf 22 = 1 := by kernel_rfl
theorem add_plain (g o j : Nat) : (⟨g, o, none⟩ : Addr).add j = ⟨g, o + j, none⟩ := by unfold Addr.add; split <;> simp_all

theorem weights_mem {H : Type} {P : Program} {e : TypeId} {R : Nat} : ∀ (l : List (DataW H)) (d : DataW H), (DataW.weightsAll P e l).all (· ≤ R) = true → d ∈ l → (d.weights P e).all (· ≤ R) = true
  | x :: l, d, h, hd => by
    have h' : (DataW.weights P e x ++ DataW.weightsAll P e l).all (· ≤ R) = true := h
    rw [List.all_append, Bool.and_eq_true] at h'
    rcases List.mem_cons.1 hd with rfl | hd
    · exact h'.1
    · exact weights_mem l d h'.2 hd

/- the calls, opened -/
theorem open_acts {H : Type} {enc : TypeId × Value → H} {W : World} {held : Bool} {fuel : Nat} {a : Option Addr} {len cap : Nat} {x : DataW H × List MemPlace} (h : DataW.trod enc Try.prog W 0 (fun _ => true) held fuel 23 [.slice a len cap] = some x)
    (hw : (x.1.weights Try.prog 23).all (· ≤ reachBytes) = true) : Ac W len a := by
  rcases open_slice Try.underlying23 h with ⟨h0, _⟩ | ⟨ad, len', cap', m, n, D, Pl, hcs, _, hl, _, hmm, hx0, hx⟩
  · cases h0
    intro j hj
    omega
  cases hcs
  have hlm : len ≤ m := by rw [hmm]; split <;> omega
  intro j hj
  have hwi : ((D j).weights Try.prog 31).all (· ≤ reachBytes) = true := by
    rw [hx0] at hw
    simp only [DataW.weights, Try.underlying23, List.all_cons, List.all_append, Bool.and_eq_true] at hw
    exact weights_mem _ _ hw.2.1 (List.mem_map.2 ⟨j, List.mem_range.2 hj, rfl⟩)
  obtain ⟨cs', h1, h2⟩ := hx j (by omega)
  rw [cellsA] at h1
  obtain ⟨_, hlen, hcell⟩ := World.cells?_some h1
  obtain ⟨xs, k, hk, hxy, _, hxl, hf⟩ := DataW.trod_struct Try.underlying31 h2
  have hxl' : xs.length = 3 := hxl
  clear hxl
  obtain ⟨y0, y1, y2, rfl⟩ := three_list xs hxl'
  obtain ⟨v0, v1, v2, rfl⟩ := three_list cs' hlen
  have g0 := hf 0 _ rfl
  have g1 := hf 1 _ rfl
  have g2 := hf 2 _ rfl
  simp [cells3, cells22, cells9] at g0 g1 g2
  have hD : D j = .agg [y0.1, y1.1, y2.1] := by
    have := congrArg Prod.fst hxy
    simpa using this
  rw [hD] at hwi
  simp only [DataW.weights, Try.underlying31] at hwi
  have hwi' : (y0.1.weights Try.prog 3 ++ (y1.1.weights Try.prog 22 ++ (y2.1.weights Try.prog 9 ++ []))).all (· ≤ reachBytes) = true := by
    simpa [DataW.weightsEach] using hwi
  simp only [List.all_append, Bool.and_eq_true] at hwi'
  obtain ⟨_, _, hw2, _⟩ := hwi'
  obtain ⟨q0, e0, _, _⟩ := DataW.trod_int Try.underlying3 g0
  obtain ⟨q1, e1, _, wf1⟩ := DataW.trod_int Try.underlying22 g1
  obtain ⟨q2, e2, x2, _⟩ := DataW.trod_string Try.underlying9 g2
  simp only [List.cons.injEq, and_true] at e0 e1 e2
  subst e0; subst e1; subst e2
  have l2 : q2.size ≤ reachBytes := by
    rw [x2] at hw2
    simpa [DataW.weights] using hw2
  obtain ⟨a1, rfl, z1⟩ := nat_u32 wf1
  have c0 := hcell 0 (by simp)
  have c1 := hcell 1 (by simp)
  have c2 := hcell 2 (by simp)
  rw [add_add] at c0 c1 c2
  have hsp : ad.spot = none := by
    obtain ⟨cs0, k1, _⟩ := hx 0 (by omega)
    rw [cellsA] at k1
    obtain ⟨_, klen, kcell⟩ := World.cells?_some k1
    obtain ⟨y0, y1, y2, rfl⟩ := three_list cs0 klen
    have k0 := kcell 0 (by simp)
    rw [add_add] at k0
    have := World.cell?_spot k0
    simpa [Addr.add] using this
  obtain ⟨g, o, sp0⟩ := ad
  simp only at hsp
  subst hsp
  rw [add_plain] at c0 c1 c2
  unfold reachBytes at l2
  exact ⟨g, o, q0, a1, q2, rfl, z1, by omega, ⟨by simpa using c0, by simpa [Nat.add_assoc] using c1, by simpa [Nat.add_assoc] using c2⟩⟩

end Go.Proofs.Ytjingknkjokldaa
