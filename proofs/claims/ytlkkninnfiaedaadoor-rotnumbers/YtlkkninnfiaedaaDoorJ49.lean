/- How the arguments are opened. How the arguments are opened. How the arguments are opened. A key opened. -/
import Derived.Test.YtlkkninnfiaedaaDoorJ30
import Derived.ProofKit
import Derived.OpenShut
import Derived.ShutString
import Derived.ChangeOld
import Derived.Below
import Derived.Deep.Grids
import Derived.Test.YtlkkninnfiaedaaDoorJ43
import Derived.Deep.Slices
import Derived.ChangeSame
import Derived.ChangeVars
import Derived.Carry
import Derived.Test.YtlkkninnfiaedaaDoorJ00
namespace Go.Proofs.YtlkkninnfiaedaaDoor.T
open Go.ChangeShapes Go.WideShapes Go.RowKit Go.Deep

theorem own : ownKnob Tryd.prog.godebug = none := by kernel_rfl
theorem laidOut : laidOutB Tryd.prog = true := by kernel_rfl
theorem cells4 : Tryd.prog.cellsOf 4 = 1 := by kernel_rfl

theorem open_bl {H : Type} {enc : TypeId × Value → H} {W : World} {held : Bool} {fuel : Nat} {a : Option Addr} {len cap : Nat} {x : DataW H × List MemPlace} (h : DataW.trod enc Tryd.prog W 0 (fun _ => true) held fuel 53 [.slice a len cap] = some x) :
    ∃ l : List Bool, Bl W len a l := by
  rcases open_bools Tryd.underlying53 Tryd.underlying4 cells4 h with ⟨h0, _⟩ | ⟨ad, l', c', B, hcs, _, hl, _, _, hcell⟩
  · cases h0
    exact ⟨[], rfl, fun j x hj => by simp at hj⟩
  · cases hcs
    refine ⟨(List.range len).map B, by simp, fun j x hj => ?_⟩
    have hjl : j < len := by
      have := (List.getElem?_eq_some_iff.1 hj).1
      simpa using this
    have hx : x = B j := by
      simp [hjl] at hj
      exact hj.symm
    subst hx
    have hc := hcell j (by omega)
    have hsp : ad.spot = none := by
      have := World.cell?_spot (hcell 0 (by omega))
      simpa [Addr.add] using this
    obtain ⟨g, o, sp0⟩ := ad
    simp only at hsp
    subst hsp
    refine ⟨g, o, rfl, ?_⟩
    have e : (⟨g, o, none⟩ : Addr).add j = ⟨g, o + j, none⟩ := by unfold Addr.add; split <;> simp_all
    rwa [e] at hc

end Go.Proofs.YtlkkninnfiaedaaDoor.T

namespace Go.Proofs.YtlkkninnfiaedaaDoor.T
open Go.ChangeShapes Go.WideShapes Go.RowKit Go.Deep
set_option maxRecDepth 100000

theorem cells39 : Tryd.prog.cellsOf 24 = 2 := by kernel_rfl
theorem cells37 : Tryd.prog.cellsOf 22 = 1 := by kernel_rfl
theorem two_list {α : Type} (l : List α) (h : l.length = 2) : ∃ a b, l = [a, b] := by
  match l, h with
  | [a, b], _ => exact ⟨a, b, rfl⟩
theorem open_rows {H : Type} {enc : TypeId × Value → H} {W : World} {held : Bool} {fuel : Nat} {a : Option Addr} {len cap : Nat} {x : DataW H × List MemPlace} (h : DataW.trod enc Tryd.prog W 0 (fun _ => true) held fuel 25 [.slice a len cap] = some x) : (∃ R, Rws W len a R) ∧ len ≤ cap := by
  rcases open_slice Tryd.underlying25 h with ⟨h0, _⟩ | ⟨ad, len', cap', m, n, D, Pl, hcs, _, hl, _, hmm, hx0, hx⟩
  · cases h0
    exact ⟨⟨fun _ _ => 0, fun j hj => by omega, fun _ _ => by omega⟩, Nat.le_refl _⟩
  cases hcs
  have hlm : len ≤ m := by rw [hmm]; split <;> omega
  refine ⟨?_, hl⟩
  have each : ∀ j, ∃ q : Nat × Nat, q.1 < 18446744073709551616 ∧ q.2 < 18446744073709551616 ∧ (j < len → ∃ g o, ad = ⟨g, o, none⟩ ∧ W.cell? ⟨g, o + j * 2, none⟩ = some (.int .u64 (q.1 : Nat)) ∧ W.cell? ⟨g, o + j * 2 + 1, none⟩ = some (.int .u64 (q.2 : Nat))) := by
    intro j
    by_cases hj : j < len
    · obtain ⟨cs', h1, h2⟩ := hx j (by omega)
      rw [cells39] at h1
      obtain ⟨_, hlen, hcell⟩ := World.cells?_some h1
      obtain ⟨xs, k, hk, hxy, _, hn, hel⟩ := DataW.trod_array Tryd.underlying24 h2
      obtain ⟨v0, v1, rfl⟩ := two_list cs' hlen
      obtain ⟨y0, y1, rfl⟩ := two_list xs hn
      have g0 := hel 0 (by omega)
      have g1 := hel 1 (by omega)
      simp [cells37] at g0 g1
      obtain ⟨q0, e0, _, wf0⟩ := DataW.trod_int Tryd.underlying22 g0
      obtain ⟨q1, e1, _, wf1⟩ := DataW.trod_int Tryd.underlying22 g1
      simp only [List.cons.injEq, and_true] at e0 e1
      subst e0; subst e1
      obtain ⟨b0, b0'⟩ := bounds_u64 wf0
      obtain ⟨b1, b1'⟩ := bounds_u64 wf1
      have hc0 := hcell 0 (by omega)
      have hc1 := hcell 1 (by omega)
      refine ⟨(q0.toNat, q1.toNat), by simp; omega, by simp; omega, fun _ => ?_⟩
      rw [add_add] at hc0 hc1
      have hsp : ad.spot = none := by
        obtain ⟨cs0, k1, _⟩ := hx 0 (by omega)
        rw [cells39] at k1
        obtain ⟨_, klen, kcell⟩ := World.cells?_some k1
        obtain ⟨y0, y1, rfl⟩ := two_list cs0 klen
        have k0 := kcell 0 (by simp)
        rw [add_add] at k0
        have := World.cell?_spot k0
        simpa [Addr.add] using this
      obtain ⟨g, o, sp0⟩ := ad
      simp only at hsp
      subst hsp
      rw [addr_add] at hc0 hc1
      refine ⟨g, o, rfl, ?_, ?_⟩
      · rw [Int.toNat_of_nonneg b0]; simpa [cells39] using hc0
      · rw [Int.toNat_of_nonneg b1]; simpa [cells39, Nat.add_assoc] using hc1
    · exact ⟨(0, 0), by decide, by decide, fun h => absurd h hj⟩
  refine ⟨fun j p => if p = 0 then (Classical.choose (each j)).1 else (Classical.choose (each j)).2, fun j hj => ?_, fun j p => ?_⟩
  · obtain ⟨_, _, h3⟩ := Classical.choose_spec (each j)
    obtain ⟨g, o, rfl, c0, c1⟩ := h3 hj
    exact ⟨g, o, rfl, c0, c1⟩
  · obtain ⟨h1, h2, _⟩ := Classical.choose_spec (each j)
    by_cases hp : p = 0
    · simp only [if_pos hp]; exact h1
    · simp only [if_neg hp]; exact h2
end Go.Proofs.YtlkkninnfiaedaaDoor.T

namespace Go.Proofs.YtlkkninnfiaedaaDoor.Pg
open Go.ChangeShapes Go.WideShapes Go.RowKit Go.Deep

theorem own : ownKnob Tryd.prog.godebug = none := by kernel_rfl
theorem laidOut : laidOutB Tryd.prog = true := by kernel_rfl

theorem nat_u64 {n : Int} (h : (Lit.int .u64 n).wf = true) : ∃ a : Nat, n = (a : Int) ∧ a < 18446744073709551616 := by
  have := bounds_u64 h
  exact ⟨n.toNat, by omega, by omega⟩
theorem nat_u32 {n : Int} (h : (Lit.int .u32 n).wf = true) : ∃ a : Nat, n = (a : Int) ∧ a < 4294967296 := by
  have := bounds_u32 h
  exact ⟨n.toNat, by omega, by omega⟩
theorem nat_u16 {n : Int} (h : (Lit.int .u16 n).wf = true) : ∃ a : Nat, n = (a : Int) ∧ a < 65536 := by
  have := bounds_u16 h
  exact ⟨n.toNat, by omega, by omega⟩
theorem nat_u8 {n : Int} (h : (Lit.int .u8 n).wf = true) : ∃ a : Nat, n = (a : Int) ∧ a < 256 := by
  have := bounds_u8 h
  exact ⟨n.toNat, by omega, by omega⟩

end Go.Proofs.YtlkkninnfiaedaaDoor.Pg

namespace Go.Proofs.YtlkkninnfiaedaaDoor.Pg
open Go.ChangeShapes Go.WideShapes Go.RowKit
set_option maxRecDepth 100000

/- a key, opened -/
theorem open_key {H : Type} {enc : TypeId × Value → H} {W : World} {r : Reach} {b0 : Nat} {base : Nat} {spare : Nat → Bool} {held : Bool} {v : Value} {d : DataW H} {p : List MemPlace}
    (hv : Value.okWide Tryd.prog W r b0 28 v) (h : DataW.Trod enc Tryd.prog W base spare held 28 v d p) : ∃ l : List Nat, l.length = 32 ∧ Lt 256 l ∧ v = arr8 l := by
  have c23 : Tryd.prog.cellsOf 28 = 32 := by kernel_rfl
  have c5 : Tryd.prog.cellsOf 5 = 1 := by kernel_rfl
  have hv' : ∃ cs, v = .agg cs ∧ cs.size = Tryd.prog.cellsOf 28 := by
    simp only [Value.okWide, Tryd.underlying28] at hv
    obtain ⟨cs, h1, h2, _⟩ := hv
    exact ⟨cs, h1, h2⟩
  obtain ⟨cs, rfl, hsz⟩ := hv'
  rw [c23] at hsz
  obtain ⟨fuel, hf⟩ := h
  obtain ⟨xs, m, rfl, hx, hlen, hn, hel⟩ := DataW.trod_array Tryd.underlying28 hf
  have each : ∀ i, i < 32 → ∃ n : Nat, n < 256 ∧ cs[i]? = some (.int .u8 (n : Int)) := by
    intro i hi
    have hi' : i < xs.length := by rw [hn]; exact hi
    have h1 := hel i hi
    rw [List.getElem?_eq_getElem hi', c5, Nat.mul_one] at h1
    obtain ⟨z, e1, _, hz⟩ := DataW.trod_int Tryd.underlying5 h1
    have hlt : i < cs.size := by rw [hsz]; exact hi
    have e2 : (cs.toList.drop i).take 1 = [cs[i]] := by
      rw [List.drop_eq_getElem_cons (by simpa using hlt)]
      simp
    have e3 : [cs[i]] = [Value.int .u8 z] := e2.symm.trans e1
    have e4 : cs[i] = Value.int .u8 z := by simpa using e3
    obtain ⟨b1, b2⟩ := bounds_u8 hz
    refine ⟨z.toNat, by omega, ?_⟩
    rw [Array.getElem?_eq_getElem hlt, e4, Int.toNat_of_nonneg b1]
  have pick : ∃ f : Nat → Nat, ∀ i, i < 32 → f i < 256 ∧ cs[i]? = some (.int .u8 (f i : Int)) :=
    ⟨fun i => if h : i < 32 then (each i h).choose else 0, fun i hi => by
      simp only [hi, dif_pos]
      exact (each i hi).choose_spec⟩
  obtain ⟨f, hf2⟩ := pick
  refine ⟨(List.range 32).map f, by simp, ?_, ?_⟩
  · intro x hx
    simp only [List.mem_map, List.mem_range] at hx
    obtain ⟨i, hi, rfl⟩ := hx
    exact (hf2 i hi).1
  · unfold arr8 u8s
    refine congrArg Value.agg ?_
    apply Array.ext_getElem?
    intro i
    by_cases hi : i < 32
    · rw [(hf2 i hi).2]
      simp [hi]
    · rw [Array.getElem?_eq_none (by omega), Array.getElem?_eq_none (by simp; omega)]

end Go.Proofs.YtlkkninnfiaedaaDoor.Pg
