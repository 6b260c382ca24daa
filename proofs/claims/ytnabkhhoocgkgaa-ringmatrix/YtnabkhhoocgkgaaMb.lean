/- A matrix turned: Turn. -/
import Derived.Test.YtnabkhhoocgkgaaMa
namespace Go.Proofs.Ytnabkhhoocgkgaa
open Go.RowKit
set_option maxRecDepth 100000
attribute [local go_sem] not_any mf_any

/- the places that are done told, the others 0 -/
def pts (f : Nat → Nat) (D : Nat → Bool) (N : Nat) : List Nat := (List.range N).map (fun i => if D i then f i else 0)

theorem pts_length (f : Nat → Nat) (D : Nat → Bool) (N : Nat) : (pts f D N).length = N := by simp [pts]
theorem pts_get {f : Nat → Nat} {D : Nat → Bool} {N j : Nat} (h : j < N) : (pts f D N)[j]? = some (if D j then f j else 0) := by
  unfold pts
  rw [List.getElem?_map, List.getElem?_range h]
  rfl
theorem pts_none {f : Nat → Nat} {D : Nat → Bool} {N : Nat} (h : ∀ i, i < N → D i = false) : pts f D N = List.replicate N 0 := by
  apply List.ext_getElem
  · simp [pts]
  · intro j h1 h2
    simp [pts] at h1 ⊢
    intro hD
    rw [h j h1] at hD
    cases hD
theorem pts_set {f : Nat → Nat} {D D' : Nat → Bool} {N p : Nat} (h : ∀ i, i < N → D' i = (D i || decide (i = p))) : pts f D' N = (pts f D N).set p (f p) := by
  apply List.ext_getElem
  · simp [pts]
  · intro j h1 h2
    have hj : j < N := by simpa [pts] using h1
    rw [List.getElem_set]
    simp only [pts, List.getElem_map, List.getElem_range]
    rw [h j hj]
    by_cases hp : p = j
    · subst hp
      simp
    · have : ¬ j = p := fun e => hp e.symm
      simp [hp, this]
theorem pts_congr {f : Nat → Nat} {D D' : Nat → Bool} {N : Nat} (h : ∀ i, i < N → D' i = D i) : pts f D' N = pts f D N := by
  unfold pts
  apply List.map_congr_left
  intro i hi
  rw [h i (by simpa using hi)]

/- a matrix of m rows, turned, up to row r, column c -/
def tdone (m r c : Nat) (i : Nat) : Bool := decide (i % m < r ∨ (i % m = r ∧ i / m < c))
def tval (xs : List Nat) (m k : Nat) (i : Nat) : Nat := at0 xs (i % m * k + i / m)

theorem tpos {m r c : Nat} (hr : r < m) : (c * m + r) % m = r ∧ (c * m + r) / m = c := by
  refine ⟨by rw [Nat.add_comm, Nat.add_mul_mod_self_right, Nat.mod_eq_of_lt hr], ?_⟩
  rw [Nat.add_comm, Nat.add_mul_div_right _ _ (by omega), Nat.div_eq_of_lt hr, Nat.zero_add]

theorem tdone_step {m r c : Nat} (hr : r < m) (i : Nat) : tdone m r (c + 1) i = (tdone m r c i || decide (i = c * m + r)) := by
  have h1 := tpos (c := c) hr
  unfold tdone
  by_cases h : i = c * m + r
  · subst h
    rw [h1.1, h1.2]
    simp
  · have hne : ¬ (i % m = r ∧ i / m = c) := by
      rintro ⟨e1, e2⟩
      apply h
      have := Nat.div_add_mod i m
      rw [e1, e2, Nat.mul_comm] at this
      exact this.symm
    simp only [h, decide_false, Bool.or_false]
    congr 1
    apply propext
    constructor
    · rintro (h2 | ⟨h2, h3⟩)
      · exact .inl h2
      · exact .inr ⟨h2, by omega⟩
    · rintro (h2 | ⟨h2, h3⟩)
      · exact .inl h2
      · exact .inr ⟨h2, by omega⟩

theorem tdone_next {m k r i : Nat} (hi : i < m * k) : tdone m (r + 1) 0 i = tdone m r k i := by
  have h2 : i / m < k := Nat.div_lt_of_lt_mul hi
  unfold tdone
  congr 1
  apply propext
  constructor
  · rintro (h | ⟨_, h⟩)
    · by_cases h3 : i % m = r
      · exact .inr ⟨h3, h2⟩
      · exact .inl (by omega)
    · exact absurd h (Nat.not_lt_zero _)
  · rintro (h | ⟨h, _⟩)
    · exact .inl (by omega)
    · exact .inl (by omega)

theorem tdone_none {m i : Nat} : tdone m 0 0 i = false := by
  unfold tdone
  simp

theorem prod_lt {c k r m : Nat} (hc : c < k) (hr : r < m) : c * m + r < k * m := by
  have : (c + 1) * m ≤ k * m := Nat.mul_le_mul_right m hc
  rw [Nat.succ_mul] at this
  omega

theorem wrap_i64_nat {x : Nat} (h : x ≤ 4194304) : IntKind.i64.wrap (x : Int) = (x : Int) := by
  rw [IntKind.wrap_i64]
  omega

theorem turn_no (m k : Int) (n c : Nat) (a : Option Addr) (w : World) (h : isFilled m k n = false) :
    Calls Try.prog 34 #[.int .i64 m, .int .i64 k, .slice a n c] w fun e w' => e = .returned (.tuple #[.slice none 0 0, .int .i64 11]) ∧ w' = w := by
  have hF := fun w => hide1 (filled_any m k n c a w)
  rw [h] at hF
  go_enter Try.func34, Try.ntmps34
  go_wp2_with (first | (go_at_call 41; refine (hF _).out.mono ?_; rintro e w' ⟨rfl, rfl⟩))
  go_ret2
  exact ⟨rfl, rfl⟩

theorem filled_nat {m k n : Nat} (h1 : 1 ≤ m ∧ m ≤ 6) (h2 : 1 ≤ k ∧ k ≤ 6) (h : n = m * k) : isFilled m k n = true := by
  unfold isFilled
  apply decide_eq_true
  subst h
  exact ⟨⟨by omega, by omega⟩, by simp⟩

set_option maxHeartbeats 2000000 in
theorem turn_any (m k N c : Nat) (a : Option Addr) (xs : List Nat) (w : World) (hm : 1 ≤ m ∧ m ≤ 6) (hk : 1 ≤ k ∧ k ≤ 6) (hN : N = m * k) (ha : Nl w N a xs) :
    Calls Try.prog 34 #[.int .i64 m, .int .i64 k, .slice a N c] w fun e w' => e = .returned (.tuple #[.slice (some ⟨w.heap.size, 0, none⟩) N N, .int .i64 0]) ∧ w'.heap[w.heap.size]? = some (wrow (pts (tval xs m k) (fun _ => true) N)) ∧ Below w.heap.size w w' := by
  have hF := fun w => hide1 (filled_any m k N c a w)
  rw [filled_nat hm hk hN] at hF
  have hN36 : N ≤ 36 := by rw [hN]; exact Nat.mul_le_mul hm.2 hk.2
  have hw : IntKind.i64.wrap ((m : Int) * (k : Int)) = (N : Int) := by
    rw [← Int.natCast_mul, ← hN, wrap_i64_nat (by omega)]
  have hmk := make_words N (by omega)
  have HA := hide1 ha
  have HN := hide1 hN
  obtain ⟨hm1, hm2⟩ := hm
  obtain ⟨hk1, hk2⟩ := hk
  clear ha hN
  go_enter Try.func34, Try.ntmps34
  go_wp2_with (first | (go_at_call 41; refine (hF _).out.mono ?_; rintro e w' ⟨rfl, rfl⟩))
  clear hmk hF hw
  go_loopw [21] (fun i wr => ∃ r : Nat, r ≤ m ∧ i = .int .i64 r ∧ wr.heap[w'.heap.size]? = some (wrow (pts (tval xs m k) (tdone m r 0) N)) ∧ Below w'.heap.size w' wr) (fun i _ => m - (intOf i).toNat)
  case atStart =>
    refine ⟨0, Nat.zero_le _, rfl, ?_, (Below.refl _ _).alloc (Nat.le_refl _) _⟩
    rw [pts_none (fun i _ => tdone_none)]
    exact heap_alloc_new _ _
  case round =>
    obtain ⟨r, hr, rfl, hrow, hB⟩ := hrel
    by_cases hlt : r < m
    · have HR := hide1 hrow
      have HB := hide1 hB
      clear hrow hB
      go_wp2
      go_loopw [25] (fun i wr2 => ∃ c : Nat, c ≤ k ∧ i = .int .i64 c ∧ wr2.heap[w'.heap.size]? = some (wrow (pts (tval xs m k) (tdone m r c) N)) ∧ Below w'.heap.size w' wr2) (fun i _ => k - (intOf i).toNat)
      case atStart => exact ⟨0, Nat.zero_le _, rfl, HR.out, HB.out⟩
      case round =>
        obtain ⟨c, hc, rfl, hrow, hB⟩ := hrel
        by_cases hlt2 : c < k
        · have b1 : c * m + r < N := by rw [HN.out, Nat.mul_comm m k]; exact prod_lt hlt2 hlt
          have b2 : r * k + c < N := by rw [HN.out]; exact prod_lt hlt hlt2
          have HS := hide1 (pts_set (f := tval xs m k) (fun i (_ : i < N) => tdone_step (c := c) hlt i))
          have HV : Hid (tval xs m k (c * m + r) = at0 xs (r * k + c)) := by
            show tval xs m k (c * m + r) = _
            unfold tval
            rw [(tpos hlt).1, (tpos hlt).2]
          have e1 : IntKind.i64.wrap ((c : Int) * (m : Int)) = ((c * m : Nat) : Int) := by rw [← Int.natCast_mul, wrap_i64_nat (by omega)]
          have e3 : IntKind.i64.wrap ((r : Int) * (k : Int)) = ((r * k : Nat) : Int) := by rw [← Int.natCast_mul, wrap_i64_nat (by omega)]
          obtain ⟨ga, oa, rfl, hca⟩ := (HA.out.below hB (Nat.le_refl _)).val b2
          have hf := frozen_of_row wr w'.heap.size (c * m + r) _ _ hrow
          have hc2 := row_cell hrow (pts_get b1)
          rw [HV.out] at HS
          obtain ⟨x, hx⟩ : ∃ x, x = at0 xs (r * k + c) := ⟨_, rfl⟩
          rw [← hx] at hca HS
          obtain ⟨cm, hcm⟩ : ∃ cm, cm = c * m := ⟨_, rfl⟩
          obtain ⟨rk, hrk⟩ : ∃ rk, rk = r * k := ⟨_, rfl⟩
          rw [← hcm] at e1 hf hc2 HS b1
          rw [← hrk] at e3 hca b2
          have HR2 := hide1 hrow
          have HB2 := hide1 hB
          clear hrow hB hx hcm hrk HV
          go_wp2
          go_roundw
          case rel =>
            refine ⟨c + 1, by omega, by go_num, ?_, ?_⟩
            · rw [HS.out]
              exact wset HR2.out
            · exact HB2.out.setCell (Nat.le_refl _) _
          case measure => simp [intOf]; omega
        · have : c = k := by omega
          subst this
          have HR2 := hide1 hrow
          have HB2 := hide1 hB
          clear hrow hB
          go_wp2
          go_roundw
          case rel =>
            refine ⟨r + 1, by omega, by go_num, ?_, HB2.out⟩
            rw [HR2.out, pts_congr]
            intro i hi
            rw [tdone_next (by rw [← HN.out]; exact hi)]
          case measure => simp [intOf]; omega
    · have : r = m := by omega
      subst this
      go_wp2
      go_ret2
      refine ⟨rfl, ?_, hB⟩
      rw [hrow, pts_congr]
      intro i _
      simp [tdone, Nat.mod_lt _ (show r > 0 by omega)]

end Go.Proofs.Ytnabkhhoocgkgaa
