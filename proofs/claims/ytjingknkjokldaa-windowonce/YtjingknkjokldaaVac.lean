/- How the arguments are opened: byte strings with their sizes, bytes, truths. -/
import Derived.Test.YtjingknkjokldaaVq
import Derived.Test.YtjingknkjokldaaVg
import Derived.SliceStrings
namespace Go.Proofs.Ytjingknkjokldaa
open Go.ChangeShapes Go.WideShapes Go.RowKit Go.Deep
set_option maxRecDepth 100000

theorem weights_strs {H : Type} {R : Nat} : ∀ (ss : List ByteArray), (DataW.weightsAll Try.prog 9 (ChangeShapes.strs (H := H) ss)).all (· ≤ R) = true → ∀ s ∈ ss, s.size ≤ R
  | [], _, s, hs => by cases hs
  | x :: ss, h, s, hs => by
    have h' : (DataW.weights Try.prog 9 (.lit (.string x.data.toList) : DataW H) ++ DataW.weightsAll Try.prog 9 (ChangeShapes.strs (H := H) ss)).all (· ≤ R) = true := h
    rw [List.all_append, Bool.and_eq_true] at h'
    obtain ⟨h1, h2⟩ := h'
    rcases List.mem_cons.1 hs with rfl | hs
    · simp [DataW.weights] at h1
      exact h1
    · exact weights_strs ss h2 s hs

theorem open_bodies {H : Type} {enc : TypeId × Value → H} {W : World} {held : Bool} {fuel : Nat} {a : Option Addr} {len cap : Nat} {x : DataW H × List MemPlace} (h : DataW.trod enc Try.prog W 0 (fun _ => true) held fuel 27 [.slice a len cap] = some x)
    (hw : (x.1.weights Try.prog 27).all (· ≤ reachBytes) = true) : ∃ A : List ByteArray, Rdl W (.slice a len cap) A ∧ A.length = len ∧ len ≤ cap ∧ Szl A := by
  rcases open_strings Try.underlying27 Try.underlying9 cells9 h with ⟨h0, _⟩ | ⟨ad, l', c', ss, hcs, _, hl, hm, hz, hx, hcell, hwz⟩
  · cases h0
    exact ⟨[], ⟨none, 0, rfl, fun j hj => by simp at hj⟩, rfl, Nat.le_refl _, fun s hs => by simp at hs⟩
  · cases hcs
    have hz' : ss.length = cap := by simpa using hz
    have hl' : (ss.take len).length = len := by rw [List.length_take]; omega
    refine ⟨ss.take len, ⟨_, cap, by rw [hl'], fun j hj => ?_⟩, hl', hl, fun s hs => ?_⟩
    · rw [hl'] at hj
      have hc := hcell j (by omega)
      have hsp : ad.spot = none := by
        have := World.cell?_spot (hcell 0 (by omega))
        simpa [Addr.add] using this
      obtain ⟨g, o, sp0⟩ := ad
      simp only at hsp
      subst hsp
      refine ⟨g, o, rfl, ?_⟩
      rw [Addr.add_lit] at hc
      rw [hc]
      simp [List.getD, List.getElem?_take_of_lt hj]
    · rw [hx] at hw
      simp only [DataW.weights, Try.underlying27, List.all_cons, List.all_append, Bool.and_eq_true] at hw
      have := weights_strs (ss.take len) hw.2.1 s hs
      unfold reachBytes at this
      omega
theorem open_u8s {H : Type} {enc : TypeId × Value → H} {W : World} {held : Bool} {fuel : Nat} {a : Option Addr} {len cap : Nat} {x : DataW H × List MemPlace} (h : DataW.trod enc Try.prog W 0 (fun _ => true) held fuel 60 [.slice a len cap] = some x) : Bys W len a := by
  rcases open_slice1 Try.underlying60 cells5 h with ⟨h0, _⟩ | ⟨ad, len', cap', m, n, V, D, Pl, hcs, _, hl, _, hmm, _, hx⟩
  · cases h0
    intro j hj
    omega
  cases hcs
  have hlm : len ≤ m := by rw [hmm]; split <;> omega
  intro j hj
  obtain ⟨h1, h2⟩ := hx j (by omega)
  obtain ⟨q0, e0, _, wf0⟩ := DataW.trod_int Try.underlying5 h2
  simp only [List.cons.injEq, and_true] at e0
  obtain ⟨y, rfl, hy⟩ := nat_u8 wf0
  have hsp : ad.spot = none := by
    have := World.cell?_spot (hx 0 (by omega)).1
    simpa [Addr.add] using this
  obtain ⟨g, o, sp0⟩ := ad
  simp only at hsp
  subst hsp
  rw [add_plain, e0] at h1
  exact ⟨g, o, y, rfl, hy, h1⟩
theorem open_bools {H : Type} {enc : TypeId × Value → H} {W : World} {held : Bool} {fuel : Nat} {a : Option Addr} {len cap : Nat} {x : DataW H × List MemPlace} (h : DataW.trod enc Try.prog W 0 (fun _ => true) held fuel 61 [.slice a len cap] = some x) : Tru W len a := by
  rcases open_slice1 Try.underlying61 cells4 h with ⟨h0, _⟩ | ⟨ad, len', cap', m, n, V, D, Pl, hcs, _, hl, _, hmm, _, hx⟩
  · cases h0
    intro j hj
    omega
  cases hcs
  have hlm : len ≤ m := by rw [hmm]; split <;> omega
  intro j hj
  obtain ⟨h1, h2⟩ := hx j (by omega)
  obtain ⟨q0, e0, _⟩ := DataW.trod_bool Try.underlying4 h2
  simp only [List.cons.injEq, and_true] at e0
  have hsp : ad.spot = none := by
    have := World.cell?_spot (hx 0 (by omega)).1
    simpa [Addr.add] using this
  obtain ⟨g, o, sp0⟩ := ad
  simp only at hsp
  subst hsp
  rw [add_plain, e0] at h1
  exact ⟨g, o, q0, rfl, h1⟩

/- the first so many of a list -/
theorem run_upto {w : World} (a : Option Addr) (n c k : Nat) (ha : ∀ x, a = some x → x.spot = none) (hk : k ≤ c) : (Instr.slice 27 (.slice a n c) none (some (.int .i64 (k : Int))) none).run Try.prog w = .ok (.slice a k c) w := by
  rw [run_slice_h w 27 a n c (by kernel_rfl) .i64 (k : Int) (by omega) (by omega)]
  have hz : (sizeOf (Try.prog.elem 27)).run Try.prog w = .ok 1 w := Try.sizeOf9 w
  rw [hz]
  simp only [Result.andThen, sliced]
  cases a with
  | none => simp
  | some x =>
    obtain ⟨g, o, sp⟩ := x
    have := ha _ rfl
    simp only at this
    subst this
    simp [add_plain]

end Go.Proofs.Ytjingknkjokldaa
