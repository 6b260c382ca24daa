/- How the arguments are opened. How the arguments are opened. A key opened. -/
import Derived.Test.YtdmodknjcdkocaaJ27
import Derived.ProofKit
import Derived.OpenShut
import Derived.ShutString
import Derived.ChangeOld
import Derived.Below
import Derived.Deep.Grids
import Derived.Test.YtdmodknjcdkocaaJ01
namespace Go.Proofs.Ytdmodknjcdkocaa.T
open Go.ChangeShapes Go.WideShapes Go.RowKit Go.Deep

theorem own : ownKnob Try.prog.godebug = none := by kernel_rfl
theorem laidOut : laidOutB Try.prog = true := by kernel_rfl
theorem cells4 : Try.prog.cellsOf 4 = 1 := by kernel_rfl

theorem open_bl {H : Type} {enc : TypeId × Value → H} {W : World} {held : Bool} {fuel : Nat} {a : Option Addr} {len cap : Nat} {x : DataW H × List MemPlace} (h : DataW.trod enc Try.prog W 0 (fun _ => true) held fuel 35 [.slice a len cap] = some x) :
    ∃ l : List Bool, Bl W len a l := by
  rcases open_bools Try.underlying35 Try.underlying4 cells4 h with ⟨h0, _⟩ | ⟨ad, l', c', B, hcs, _, hl, _, _, hcell⟩
  · cases h0
    exact ⟨[], rfl, fun j x hj => by simp at hj⟩
  · cases hcs
    refine ⟨(List.range len).map B, by simp, fun j x hj => ?_⟩
    have hjl : j < len := by
      have := (List.getElem?_eq_some_iff.1 hj).1
      simpa using this
    have hx : x = B j := by
      simp [hjl] at hj
      exact hj.symm
    subst hx
    have hc := hcell j (by omega)
    have hsp : ad.spot = none := by
      have := World.cell?_spot (hcell 0 (by omega))
      simpa [Addr.add] using this
    obtain ⟨g, o, sp0⟩ := ad
    simp only at hsp
    subst hsp
    refine ⟨g, o, rfl, ?_⟩
    have e : (⟨g, o, none⟩ : Addr).add j = ⟨g, o + j, none⟩ := by unfold Addr.add; split <;> simp_all
    rwa [e] at hc

end Go.Proofs.Ytdmodknjcdkocaa.T

namespace Go.Proofs.Ytdmodknjcdkocaa.Pg
open Go.ChangeShapes Go.WideShapes Go.RowKit Go.Deep

theorem own : ownKnob Try.prog.godebug = none := by kernel_rfl
theorem laidOut : laidOutB Try.prog = true := by kernel_rfl

theorem nat_u64 {n : Int} (h : (Lit.int .u64 n).wf = true) : ∃ a : Nat, n = (a : Int) ∧ a < 18446744073709551616 := by
  have := bounds_u64 h
  exact ⟨n.toNat, by omega, by omega⟩
theorem nat_u32 {n : Int} (h : (Lit.int .u32 n).wf = true) : ∃ a : Nat, n = (a : Int) ∧ a < 4294967296 := by
  have := bounds_u32 h
  exact ⟨n.toNat, by omega, by omega⟩
theorem nat_u16 {n : Int} (h : (Lit.int .u16 n).wf = true) : ∃ a : Nat, n = (a : Int) ∧ a < 65536 := by
  have := bounds_u16 h
  exact ⟨n.toNat, by omega, by omega⟩
theorem nat_u8 {n : Int} (h : (Lit.int .u8 n).wf = true) : ∃ a : Nat, n = (a : Int) ∧ a < 256 := by
  have := bounds_u8 h
  exact ⟨n.toNat, by omega, by omega⟩

end Go.Proofs.Ytdmodknjcdkocaa.Pg

namespace Go.Proofs.Ytdmodknjcdkocaa.Pg
open Go.ChangeShapes Go.WideShapes Go.RowKit
set_option maxRecDepth 100000

/- a key, opened -/
theorem open_key {H : Type} {enc : TypeId × Value → H} {W : World} {r : Reach} {b0 : Nat} {base : Nat} {spare : Nat → Bool} {held : Bool} {v : Value} {d : DataW H} {p : List MemPlace}
    (hv : Value.okWide Try.prog W r b0 46 v) (h : DataW.Trod enc Try.prog W base spare held 46 v d p) : ∃ l : List Nat, l.length = 32 ∧ Lt 256 l ∧ v = arr8 l := by
  have c23 : Try.prog.cellsOf 46 = 32 := by kernel_rfl
  have c5 : Try.prog.cellsOf 5 = 1 := by kernel_rfl
  have hv' : ∃ cs, v = .agg cs ∧ cs.size = Try.prog.cellsOf 46 := by
    simp only [Value.okWide, Try.underlying46] at hv
    obtain ⟨cs, h1, h2, _⟩ := hv
    exact ⟨cs, h1, h2⟩
  obtain ⟨cs, rfl, hsz⟩ := hv'
  rw [c23] at hsz
  obtain ⟨fuel, hf⟩ := h
  obtain ⟨xs, m, rfl, hx, hlen, hn, hel⟩ := DataW.trod_array Try.underlying46 hf
  have each : ∀ i, i < 32 → ∃ n : Nat, n < 256 ∧ cs[i]? = some (.int .u8 (n : Int)) := by
    intro i hi
    have hi' : i < xs.length := by rw [hn]; exact hi
    have h1 := hel i hi
    rw [List.getElem?_eq_getElem hi', c5, Nat.mul_one] at h1
    obtain ⟨z, e1, _, hz⟩ := DataW.trod_int Try.underlying5 h1
    have hlt : i < cs.size := by rw [hsz]; exact hi
    have e2 : (cs.toList.drop i).take 1 = [cs[i]] := by
      rw [List.drop_eq_getElem_cons (by simpa using hlt)]
      simp
    have e3 : [cs[i]] = [Value.int .u8 z] := e2.symm.trans e1
    have e4 : cs[i] = Value.int .u8 z := by simpa using e3
    obtain ⟨b1, b2⟩ := bounds_u8 hz
    refine ⟨z.toNat, by omega, ?_⟩
    rw [Array.getElem?_eq_getElem hlt, e4, Int.toNat_of_nonneg b1]
  have pick : ∃ f : Nat → Nat, ∀ i, i < 32 → f i < 256 ∧ cs[i]? = some (.int .u8 (f i : Int)) :=
    ⟨fun i => if h : i < 32 then (each i h).choose else 0, fun i hi => by
      simp only [hi, dif_pos]
      exact (each i hi).choose_spec⟩
  obtain ⟨f, hf2⟩ := pick
  refine ⟨(List.range 32).map f, by simp, ?_, ?_⟩
  · intro x hx
    simp only [List.mem_map, List.mem_range] at hx
    obtain ⟨i, hi, rfl⟩ := hx
    exact (hf2 i hi).1
  · unfold arr8 u8s
    refine congrArg Value.agg ?_
    apply Array.ext_getElem?
    intro i
    by_cases hi : i < 32
    · rw [(hf2 i hi).2]
      simp [hi]
    · rw [Array.getElem?_eq_none (by omega), Array.getElem?_eq_none (by simp; omega)]

end Go.Proofs.Ytdmodknjcdkocaa.Pg
