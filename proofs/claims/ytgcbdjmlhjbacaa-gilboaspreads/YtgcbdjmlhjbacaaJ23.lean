/- Spread of both, of what is wrong too. -/
import Derived.Test.YtgcbdjmlhjbacaaJ22
namespace Go.Proofs.Ytgcbdjmlhjbacaa.Gi
open Go.RowKit Ri
set_option maxRecDepth 100000
attribute [local go_sem] Ri.not_any Ri.mf_any

def cod (b : Bool) : Int := if b then 0 else 11
/- a list, or why there is none -/
def NPost (ok : Bool) (l : List Nat) (w : World) (e : Ending) (w' : World) : Prop :=
  ∃ a1 k1 c1, e = .returned (.tuple #[.slice a1 k1 c1, .int .i64 (cod ok)]) ∧ Nl w' k1 a1 (if ok then l else []) ∧ Below w.heap.size w w'
theorem npost_bad {l : List Nat} {w w' : World} {e : Ending} (he : e = .returned (.tuple #[.slice none 0 0, .int .i64 11])) (hb : Below w.heap.size w w') : NPost false l w e w' := ⟨none, 0, 0, he, nl_none _, hb⟩
theorem npost_good {l : List Nat} {w w' : World} {e : Ending} {a1 : Option Addr} {k1 c1 : Nat} (he : e = .returned (.tuple #[.slice a1 k1 c1, .int .i64 0])) (hn : Nl w' k1 a1 l) (hb : Below w.heap.size w w') : NPost true l w e w' := ⟨a1, k1, c1, he, hn, hb⟩

/- may numbers, cut into rows of so many, be? -/
def okS (W n : Int) (R m : Nat) (xs : List Nat) : Bool := (okW W && okN n) && (decide (m % R = 0) && fitsAll W xs)
theorem okS_yes {W n : Int} {R m : Nat} {xs : List Nat} (h : okS W n R m xs = true) : okW W = true ∧ okN n = true ∧ m % R = 0 ∧ fitsAll W xs = true := by
  unfold okS at h
  simpa [and_assoc] using h

set_option maxHeartbeats 4000000 in
theorem spread_bad (W n : Int) (m c : Nat) (a : Option Addr) (l : List Nat) (w : World) (hmx : m ≤ 4096) (ha : Nl w m a l) (hs : Small l) (ho : okS W n n.toNat m l = false) :
    Calls Try.prog 11 #[.int .i64 W, .int .i64 n, .slice a m c] w fun e w' => e = .returned (.tuple #[.slice none 0 0, .int .i64 11]) ∧ Below w.heap.size w w' := by
  have kN := fun w => hide1 (side_any n w)
  have kF : Hid (∀ X, Below w.heap.size w X → Calls Try.prog 25 #[.int .i64 W, .slice a m c] X fun e w' => e = .returned (.bool (okW W && fitsAll W l)) ∧ ∃ q, w' = X.drewN q) := fun X hX => are_any W X m c a l (ha.below hX (Nat.le_refl _)) hs (by omega)
  cases hn : okN n with
  | false =>
    rw [hn] at kN
    clear ho ha hs kF
    go_enter Try.func11, Try.ntmps11
    go_wp2_with (first | (go_at_call 30; refine (kN _).out.mono ?_; rintro e w' ⟨rfl, he0⟩; obtain rfl := he0.symm) | fail)
    go_ret2
    exact ⟨rfl, below1 _⟩
  | true =>
    rw [hn] at kN
    cases hf : okW W && fitsAll W l with
    | false =>
      rw [hf] at kF
      clear ho ha hs hf
      go_enter Try.func11, Try.ntmps11
      go_wp2_with (first | (go_at_call 30; refine (kN _).out.mono ?_; rintro e w' ⟨rfl, he0⟩; obtain rfl := he0.symm) | (go_at_call 25; refine (kF.out _ (below1 _)).mono ?_; rintro e w' ⟨rfl, q, rfl⟩) | fail)
      go_ret2
      exact ⟨rfl, below_drewN (below1 _) q⟩
    | true =>
      rw [hf] at kF
      obtain ⟨k, rfl, h3, h4⟩ := okN_nat hn
      have hmk : m % k ≠ 0 := fun e => by
        have e1 : okW W = true ∧ fitsAll W l = true := by simpa using hf
        have : okS W (k : Int) (k : Int).toNat m l = true := by
          unfold okS
          rw [e1.1, e1.2, hn, show ((k : Int)).toNat = k from rfl, e]
          rfl
        rw [this] at ho
        cases ho
      have hn0 : (k : Int) ≠ 0 := by omega
      have hn1 : ¬ k = 0 := by omega
      obtain ⟨r, hr⟩ : ∃ r, r = m % k := ⟨_, rfl⟩
      have em : (m : Int).tmod (k : Int) = (r : Int) := by rw [hr]; rfl
      have hr0 : ((r : Int) != 0) = true := by rw [bne_iff_ne]; omega
      clear ho ha hs hf hr hmk hn
      go_enter Try.func11, Try.ntmps11
      go_wp2_with (first | (go_at_call 30; refine (kN _).out.mono ?_; rintro e w' ⟨rfl, he0⟩; obtain rfl := he0.symm) | (go_at_call 25; refine (kF.out _ (below1 _)).mono ?_; rintro e w' ⟨rfl, q, rfl⟩) | fail)
      go_ret2
      exact ⟨rfl, below_drewN (below1 _) q⟩

set_option maxHeartbeats 4000000 in
theorem rspread_bad (W n : Int) (m c : Nat) (a : Option Addr) (l : List Nat) (w : World) (hmx : m ≤ 4096) (ha : Nl w m a l) (hs : Small l) (ho : okS W n n.toNat m l = false) :
    Calls Try.prog 12 #[.int .i64 W, .int .i64 n, .slice a m c] w fun e w' => e = .returned (.tuple #[.slice none 0 0, .int .i64 11]) ∧ Below w.heap.size w w' := by
  have kW := fun w => hide1 (wrong_any W n w)
  have HB := hide1 (Below.refl w.heap.size w)
  cases hb : bad W n with
  | true =>
    rw [hb] at kW
    clear ho ha hs
    go_enter Try.func12, Try.ntmps12
    go_wp2_with (first | (go_at_call 18; refine (kW _).out.mono ?_; rintro e w' ⟨rfl, he0⟩; obtain rfl := he0.symm) | fail)
    go_ret2
    exact ⟨rfl, HB.out⟩
  | false =>
    rw [hb] at kW
    obtain ⟨hW, hn⟩ := bad_no hb
    obtain ⟨L, rfl, h1, h2⟩ := okW_nat hW
    obtain ⟨k, rfl, h3, h4⟩ := okN_nat hn
    have hn0 : (k : Int) ≠ 0 := by omega
    have hn1 : ¬ k = 0 := by omega
    obtain ⟨r, hr⟩ : ∃ r, r = m % k := ⟨_, rfl⟩
    have em : (m : Int).tmod (k : Int) = (r : Int) := by rw [hr]; rfl
    by_cases h0 : r = 0
    · have hf : fitsAll (L : Int) l = false := by
        unfold okS at ho
        rw [hW, hn, show ((k : Int)).toNat = k from rfl, ← hr, h0] at ho
        simpa using ho
      have kF := hide1 (rfits_any L w m c a l ha hs (by omega) h1 h2)
      rw [hf] at kF
      subst h0
      clear ho ha hs hf hr hW hn hb
      go_enter Try.func12, Try.ntmps12
      go_wp2_with (first | (go_at_call 18; refine (kW _).out.mono ?_; rintro e w' ⟨rfl, he0⟩; obtain rfl := he0.symm) | (go_at_call 29; refine kF.out.mono ?_; rintro e w' ⟨rfl, q, rfl⟩) | fail)
      go_ret2
      exact ⟨rfl, below_drewN (Below.refl _ _) q⟩
    · have hr0 : ((r : Int) != 0) = true := by rw [bne_iff_ne]; omega
      clear ho ha hs hr hW hn hb
      go_enter Try.func12, Try.ntmps12
      go_wp2_with (first | (go_at_call 18; refine (kW _).out.mono ?_; rintro e w' ⟨rfl, he0⟩; obtain rfl := he0.symm) | fail)
      go_ret2
      exact ⟨rfl, HB.out⟩

theorem mul_parts {m n : Nat} (h : m % n = 0) : m = m / n * n := by
  have := Nat.div_add_mod m n
  rw [h, Nat.add_zero, Nat.mul_comm] at this
  exact this.symm
/- what both tell -/
def spL (W n : Int) (m : Nat) (l : List Nat) : List Nat := tl (spF W.toNat n.toNat l) (m * W.toNat)
theorem spread_any (W n : Int) (m c : Nat) (a : Option Addr) (l : List Nat) (w : World) (hmx : m ≤ 4096) (hc : m ≤ c) (ha : Nl w m a l) (hs : Small l) :
    Calls Try.prog 11 #[.int .i64 W, .int .i64 n, .slice a m c] w (NPost (okS W n n.toNat m l) (spL W n m l) w) := by
  cases ho : okS W n n.toNat m l with
  | false => exact (spread_bad W n m c a l w hmx ha hs ho).mono fun e w' ⟨he, hb⟩ => npost_bad he hb
  | true =>
    obtain ⟨hW, hn, hm, hf⟩ := okS_yes ho
    obtain ⟨L, rfl, h1, h2⟩ := okW_nat hW
    obtain ⟨k, rfl, h3, h4⟩ := okN_nat hn
    have hq := mul_parts (show m % k = 0 from hm)
    have e : m / k * (L * k) = m * L := by rw [Nat.mul_left_comm, ← hq, Nat.mul_comm]
    have h := spread_good L k (m / k) m c a l w h1 h2 h3 h4 hq hmx hc ha hs hf
    rw [e] at h
    exact h.mono fun e w' ⟨a1, c1, he, hn, hb⟩ => npost_good he hn hb
theorem rspread_any (W n : Int) (m c : Nat) (a : Option Addr) (l : List Nat) (w : World) (hmx : m ≤ 4096) (ha : Nl w m a l) (hs : Small l) :
    Calls Try.prog 12 #[.int .i64 W, .int .i64 n, .slice a m c] w (NPost (okS W n n.toNat m l) (spL W n m l) w) := by
  cases ho : okS W n n.toNat m l with
  | false => exact (rspread_bad W n m c a l w hmx ha hs ho).mono fun e w' ⟨he, hb⟩ => npost_bad he hb
  | true =>
    obtain ⟨hW, hn, hm, hf⟩ := okS_yes ho
    obtain ⟨L, rfl, h1, h2⟩ := okW_nat hW
    obtain ⟨k, rfl, h3, h4⟩ := okN_nat hn
    have hq := mul_parts (show m % k = 0 from hm)
    have e : m / k * (L * k) = m * L := by rw [Nat.mul_left_comm, ← hq, Nat.mul_comm]
    have h := rspread_good L k (m / k) m c a l w h1 h2 h3 h4 hq hmx ha hs hf
    rw [e] at h
    exact h.mono fun e w' ⟨a1, c1, he, hn, hb⟩ => npost_good he hn hb
end Go.Proofs.Ytgcbdjmlhjbacaa.Gi
