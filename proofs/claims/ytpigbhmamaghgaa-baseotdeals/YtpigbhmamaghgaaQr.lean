/- A row opened. -/
import Derived.Test.YtpigbhmamaghgaaMPgQPgQk
import Derived.Test.YtpigbhmamaghgaaOa
namespace Go.Proofs.Ytpigbhmamaghgaa
open Go.ChangeShapes Go.WideShapes Go.RowKit Pg

theorem open_row {H : Type} {enc : TypeId × Value → H} {W : World} {r : Reach} {b0 : Nat} {base : Nat} {spare : Nat → Bool} {held : Bool} {v : Value} {d : DataW H} {p : List MemPlace}
    (hv : Value.okWide Try.prog W r b0 26 v) (h : DataW.Trod enc Try.prog W base spare held 26 v d p) : ∃ a b : Nat, a < 18446744073709551616 ∧ b < 18446744073709551616 ∧ v = rw2 a b := by
  have c26 : Try.prog.cellsOf 26 = 2 := by kernel_rfl
  have c24 : Try.prog.cellsOf 24 = 1 := by kernel_rfl
  have hv' : ∃ cs, v = .agg cs ∧ cs.size = Try.prog.cellsOf 26 := by
    simp only [Value.okWide, Try.underlying26] at hv
    obtain ⟨cs, h1, h2, _⟩ := hv
    exact ⟨cs, h1, h2⟩
  obtain ⟨cs, rfl, hsz⟩ := hv'
  rw [c26] at hsz
  obtain ⟨fuel, hf⟩ := h
  obtain ⟨xs, m, rfl, hx, hlen, hn, hel⟩ := DataW.trod_array Try.underlying26 hf
  have each : ∀ i, i < 2 → ∃ n : Nat, n < 18446744073709551616 ∧ cs[i]? = some (.int .u64 (n : Int)) := by
    intro i hi
    have hi' : i < xs.length := by rw [hn]; exact hi
    have h1 := hel i hi
    rw [List.getElem?_eq_getElem hi', c24, Nat.mul_one] at h1
    obtain ⟨z, e1, _, hz⟩ := DataW.trod_int Try.underlying24 h1
    have hlt : i < cs.size := by rw [hsz]; exact hi
    have e2 : (cs.toList.drop i).take 1 = [cs[i]] := by
      rw [List.drop_eq_getElem_cons (by simpa using hlt)]
      simp
    have e3 : [cs[i]] = [Value.int .u64 z] := e2.symm.trans e1
    have e4 : cs[i] = Value.int .u64 z := by simpa using e3
    obtain ⟨b1, b2⟩ := bounds_u64 hz
    refine ⟨z.toNat, by omega, ?_⟩
    rw [Array.getElem?_eq_getElem hlt, e4, Int.toNat_of_nonneg b1]
  obtain ⟨a, ha, ea⟩ := each 0 (by omega)
  obtain ⟨b, hb, eb⟩ := each 1 (by omega)
  refine ⟨a, b, ha, hb, ?_⟩
  unfold rw2
  refine congrArg Value.agg ?_
  apply Array.ext_getElem?
  intro i
  match i with
  | 0 => rw [ea]; rfl
  | 1 => rw [eb]; rfl
  | i + 2 => rw [Array.getElem?_eq_none (by omega), Array.getElem?_eq_none (by simp)]

end Go.Proofs.Ytpigbhmamaghgaa
