/- The document's Send, of what is wrong too. -/
import Derived.Test.YtdmodknjcdkocaaJ36
namespace Go.Proofs.Ytdmodknjcdkocaa.Co
open Go.RowKit Pg Ro
set_option maxRecDepth 100000
attribute [local go_sem] not_any T.mf_any

/- may all of it be? -/
def ok (W n : Int) (m N : Nat) (xs : List Nat) : Bool := !bad W n && (decide ((N : Int) = n * (m : Int)) && Ri.fitsAll W xs)
theorem ok_yes {W n : Int} {m N : Nat} {xs : List Nat} (h : ok W n m N xs = true) : ∃ B k : Nat, W = B ∧ n = k ∧ 1 ≤ B ∧ B ≤ 64 ∧ 1 ≤ k ∧ k ≤ 6 ∧ N = m * k ∧ Ri.fitsAll (B : Int) xs = true := by
  unfold ok at h
  rw [Bool.and_eq_true, Bool.and_eq_true, Bool.not_eq_true'] at h
  obtain ⟨hb, hn, hf⟩ := h
  obtain ⟨B, k, rfl, rfl, h1, h2, h3, h4⟩ := bad_no hb
  have hn := of_decide_eq_true hn
  refine ⟨B, k, rfl, rfl, h1, h2, h3, h4, ?_, hf⟩
  rw [Nat.mul_comm]
  exact Int.ofNat.inj (by simpa using hn)
theorem ok_of {B n m N : Nat} {xs : List Nat} (h1 : 1 ≤ B) (h2 : B ≤ 64) (h3 : 1 ≤ n) (h4 : n ≤ 6) (hN : N = m * n) (hf : Ri.fitsAll (B : Int) xs = true) : ok (B : Int) (n : Int) m N xs = true := by
  unfold ok
  rw [bad_of h1 h2 h3 h4, hf, Bool.and_true, Bool.not_false, Bool.true_and]
  refine decide_eq_true ?_
  rw [hN, Nat.mul_comm, Int.natCast_mul]

set_option maxHeartbeats 4000000 in
theorem rsend_bad (W n : Int) (m N c cx : Nat) (a ax : Option Addr) (xs : List Nat) (w : World) (hx : T.Nl w N ax xs) (hs : Ri.Small xs) (hm : m ≤ 4096) (_hN : N ≤ 24576) (ho : ok W n m N xs = false) :
    Calls Try.prog 10 #[.int .i64 W, .int .i64 n, .slice a m c, .slice ax N cx] w fun e w' => e = .returned (.tuple #[.slice none 0 0, .slice none 0 0, .int .i64 11]) ∧ Below w.heap.size w w' := by
  have kW := fun w => hide1 (wrong_any W n w)
  have HB := hide1 (Below.refl w.heap.size w)
  cases hb : bad W n with
  | true =>
    rw [hb] at kW
    clear hb ho hx hs
    go_enter Try.func10, Try.ntmps10
    go_wp2_with fail
    go_at_call 26
    refine (kW _).out.mono ?_
    rintro e w0 ⟨rfl, he0⟩
    obtain rfl := he0.symm
    clear kW
    go_wp2
    refine bodyPost_ret (results_tmp3 rfl _ _ _) rfl ?_
    exact ⟨rfl, HB.out⟩
  | false =>
    rw [hb] at kW
    obtain ⟨B, k, rfl, rfl, h1, h2, h3, h4⟩ := bad_no hb
    have hq : k * m ≤ 24576 := Nat.le_trans (Nat.mul_le_mul h4 hm) (by decide)
    have e1 : IntKind.i64.wrap ((k : Int) * (m : Int)) = ((k * m : Nat) : Int) := by rw [← Int.natCast_mul, wrap_i64_nat (by omega)]
    by_cases hn : N = k * m
    · have hf : Ri.fitsAll (B : Int) xs = false := by
        unfold ok at ho
        rw [hb, Bool.not_false, Bool.true_and, decide_eq_true (by rw [hn, Int.natCast_mul]), Bool.true_and] at ho
        exact ho
      have kF := fun w hx => hide1 (Ri.rfits_any B w N cx ax xs (ri_nl hx) hs (by omega) h1 h2)
      rw [hf] at kF
      have nn : ((N : Int) != (N : Int)) = false := by rw [bne_eq_false_iff_eq]
      rw [← hn] at e1
      clear hb ho h1 h2 h3 h4 hn hq hm hf
      go_enter Try.func10, Try.ntmps10
      go_wp2_with fail
      go_at_call 26
      refine (kW _).out.mono ?_
      rintro e w0 ⟨rfl, he0⟩
      obtain rfl := he0.symm
      go_wp2_with fail
      go_at_call 17
      refine (kF _ hx).out.mono ?_
      rintro e w1 ⟨rfl, q0, hq0⟩
      have B0 : Hid (Below w.heap.size w w1) := by rw [hq0]; exact below_drewN' (Below.refl _ _) q0
      clear hq0 hx kW kF
      go_wp2
      refine bodyPost_ret (results_tmp3 rfl _ _ _) rfl ?_
      exact ⟨rfl, B0.out⟩
    · obtain ⟨Q, hQ⟩ : ∃ Q, Q = k * m := ⟨_, rfl⟩
      rw [← hQ] at e1 hn
      have nn : ((N : Int) != (Q : Int)) = true := by rw [bne_iff_ne]; omega
      clear hb ho h1 h2 h3 h4 hn hq hm hQ hx hs _hN
      go_enter Try.func10, Try.ntmps10
      go_wp2_with fail
      go_at_call 26
      refine (kW _).out.mono ?_
      rintro e w0 ⟨rfl, he0⟩
      obtain rfl := he0.symm
      clear kW
      go_wp2
      refine bodyPost_ret (results_tmp3 rfl _ _ _) rfl ?_
      exact ⟨rfl, HB.out⟩

/- what Send answers: corrections and shares, or why there are none -/
def fixL (W n : Int) (m N : Nat) (f : Nat → List Nat) (xs : List Nat) : List Nat := if ok W n m N xs then tl (fixF W.toNat n.toNat f (at0 xs)) N else []
def ownL (W n : Int) (m N : Nat) (f : Nat → List Nat) (xs : List Nat) : List Nat := if ok W n m N xs then tl (ownF W.toNat n.toNat f) N else []
def cod (b : Bool) : Int := if b then 0 else 11
def SPost (W n : Int) (m N : Nat) (f : Nat → List Nat) (xs : List Nat) (w : World) (e : Ending) (w' : World) : Prop :=
  ∃ a1 k1 c1 a2 k2 c2, e = .returned (.tuple #[.slice a1 k1 c1, .slice a2 k2 c2, .int .i64 (cod (ok W n m N xs))]) ∧ T.Nl w' k1 a1 (fixL W n m N f xs) ∧ T.Nl w' k2 a2 (ownL W n m N f xs) ∧ Below w.heap.size w w'
theorem rsend_any (W n : Int) (m N c cx : Nat) (a ax : Option Addr) (f : Nat → List Nat) (xs : List Nat) (w : World) (hp : Pd w m a f) (hx : T.Nl w N ax xs) (hs : Ri.Small xs) (hm : m ≤ 4096) (hN : N ≤ 24576) :
    Calls Try.prog 10 #[.int .i64 W, .int .i64 n, .slice a m c, .slice ax N cx] w (SPost W n m N f xs w) := by
  unfold SPost fixL ownL
  cases ho : ok W n m N xs with
  | true =>
    obtain ⟨B, k, rfl, rfl, h1, h2, h3, h4, hk, hf⟩ := ok_yes ho
    refine (rsend_good B k m N c cx a ax f xs w hp hx hs h1 h2 h3 h4 hm hk hf).mono ?_
    rintro e w' ⟨a1, c1, a2, c2, rfl, r1, r2, hb⟩
    exact ⟨a1, N, c1, a2, N, c2, rfl, r1, r2, hb⟩
  | false =>
    refine (rsend_bad W n m N c cx a ax xs w hx hs hm hN ho).mono ?_
    rintro e w' ⟨rfl, hb⟩
    exact ⟨none, 0, 0, none, 0, 0, rfl, nl_none _, nl_none _, hb⟩
end Go.Proofs.Ytdmodknjcdkocaa.Co
