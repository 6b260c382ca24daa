/- Numbers of so many bits: sums, products, powers and inverses; no program is named here. -/
import Derived.Laws.BitsAllLaws
namespace Go.Proofs.Ytgcbdjmlhjbacaa.Ri

/- a number cut to so many bits; of no such count it is 0 -/
def fit (l : Int) (x : Nat) : Nat := if 1 ≤ l ∧ l ≤ 64 then x % 2 ^ l.toNat else 0

theorem pow_le64 {L : Nat} (h : L ≤ 64) : 2 ^ L ≤ 18446744073709551616 := Nat.pow_le_pow_right (n := 2) (j := 64) (by omega) h
theorem pow_dvd64 {L : Nat} (h : L ≤ 64) : 2 ^ L ∣ 18446744073709551616 := Nat.pow_dvd_pow 2 (n := 64) h
theorem pow_pos2 (L : Nat) : 0 < 2 ^ L := Nat.pow_pos (by omega)

theorem cut_lt {L : Nat} (h : L ≤ 64) (x : Nat) : x % 2 ^ L < 18446744073709551616 :=
  Nat.lt_of_lt_of_le (Nat.mod_lt _ (pow_pos2 L)) (pow_le64 h)

theorem cut_64 {L : Nat} (h : L ≤ 64) (x : Nat) : x % 18446744073709551616 % 2 ^ L = x % 2 ^ L := Nat.mod_mod_of_dvd _ (pow_dvd64 h)

theorem fit_lt (l : Int) (x : Nat) : fit l x < 18446744073709551616 := by
  unfold fit
  split
  · exact cut_lt (by omega) x
  · omega

theorem fit_64 (l : Int) (x : Nat) : fit l (x % 18446744073709551616) = fit l x := by
  unfold fit
  split
  · exact cut_64 (by omega) x
  · rfl

theorem fit_good {l : Int} (h : 1 ≤ l ∧ l ≤ 64) (x : Nat) : fit l x = x % 2 ^ l.toNat := if_pos h
theorem fit_bad {l : Int} (h : ¬ (1 ≤ l ∧ l ≤ 64)) (x : Nat) : fit l x = 0 := if_neg h
theorem fit_nat {L : Nat} (h : 1 ≤ L) (h' : L ≤ 64) (x : Nat) : fit (L : Int) x = x % 2 ^ L := by
  rw [fit_good (by omega)]
  simp

/- the mask -/
theorem mask_eq {L : Nat} (h : L ≤ 64) : 18446744073709551615 / 2 ^ (64 - L) = 2 ^ L - 1 := by
  have e : 18446744073709551616 = 2 ^ L * 2 ^ (64 - L) := by
    rw [← Nat.pow_add, show L + (64 - L) = 64 by omega]
  have h1 := pow_pos2 L
  have h2 := pow_pos2 (64 - L)
  generalize 2 ^ L = p at *
  generalize 2 ^ (64 - L) = q at *
  apply Nat.div_eq_of_lt_le
  · rw [Nat.sub_mul]
    omega
  · rw [show p - 1 + 1 = p by omega]
    omega

theorem and_mask (x L : Nat) : x &&& (2 ^ L - 1) = x % 2 ^ L := Nat.and_two_pow_sub_one_eq_mod x L

/- bit by bit -/
theorem or_bit {o i : Nat} (d : Nat) (ho : o < 2 ^ i) : o ||| d * 2 ^ i = o + d * 2 ^ i := by
  rw [Nat.or_comm, Nat.mul_comm, ← Nat.two_pow_add_eq_or_of_lt ho]
  omega

theorem mod_succ (x i : Nat) : x % 2 ^ (i + 1) = x % 2 ^ i + x / 2 ^ i % 2 * 2 ^ i := by
  rw [Nat.pow_succ, Nat.mod_mul, Nat.mul_comm (2 ^ i)]

theorem fit_step (x i : Nat) : x % 2 ^ i ||| x / 2 ^ i % 2 * 2 ^ i = x % 2 ^ (i + 1) := by
  rw [or_bit _ (Nat.mod_lt _ (pow_pos2 i)), mod_succ]

theorem and_bit (x i : Nat) : x &&& 2 ^ i = x / 2 ^ i % 2 * 2 ^ i := by
  apply Nat.eq_of_testBit_eq
  intro j
  rw [Nat.testBit_and, Nat.testBit_two_pow, ← Nat.shiftLeft_eq, Nat.testBit_shiftLeft]
  by_cases h : i = j
  · subst h
    simp [Nat.testBit_eq_decide_div_mod_eq]
  · by_cases h2 : i ≤ j
    · simp only [h, decide_false, Bool.and_false, ge_iff_le, h2, decide_true, Bool.true_and]
      symm
      apply Nat.testBit_lt_two_pow
      exact Nat.lt_of_lt_of_le (Nat.mod_lt _ (by omega)) (Nat.le_trans (by omega : 2 ≤ 2 ^ 1) (Nat.pow_le_pow_right (by omega) (by omega)))
    · simp [h, h2]

/- sums: what is carried -/
def car (a b i : Nat) : Nat := (a % 2 ^ i + b % 2 ^ i) / 2 ^ i

theorem car_le (a b i : Nat) : car a b i ≤ 1 := by
  have h1 := Nat.mod_lt a (pow_pos2 i)
  have h2 := Nat.mod_lt b (pow_pos2 i)
  unfold car
  have : (a % 2 ^ i + b % 2 ^ i) / 2 ^ i < 2 := by
    rw [Nat.div_lt_iff_lt_mul (pow_pos2 i)]
    omega
  omega

theorem car_zero (a b : Nat) : car a b 0 = 0 := by simp [car, Nat.mod_one]

theorem sum_split (a b i : Nat) : a % 2 ^ (i + 1) + b % 2 ^ (i + 1) = (a + b) % 2 ^ i + (a / 2 ^ i % 2 + b / 2 ^ i % 2 + car a b i) * 2 ^ i := by
  rw [mod_succ a, mod_succ b, Nat.add_mod a b (2 ^ i)]
  have := Nat.mod_add_div (a % 2 ^ i + b % 2 ^ i) (2 ^ i)
  unfold car
  rw [Nat.add_mul, Nat.add_mul, Nat.mul_comm ((a % 2 ^ i + b % 2 ^ i) / 2 ^ i)]
  omega

theorem add_cut (a b i : Nat) : (a + b) % 2 ^ (i + 1) = (a % 2 ^ (i + 1) + b % 2 ^ (i + 1)) % 2 ^ (i + 1) := Nat.add_mod _ _ _

theorem low_split {o s i : Nat} (ho : o < 2 ^ i) : (o + s * 2 ^ i) % 2 ^ (i + 1) = o + s % 2 * 2 ^ i ∧ (o + s * 2 ^ i) / 2 ^ (i + 1) = s / 2 := by
  have hp := pow_pos2 i
  have h1 : (o + s * 2 ^ i) / 2 ^ i = s := by
    rw [Nat.add_mul_div_right _ _ hp, Nat.div_eq_of_lt ho, Nat.zero_add]
  have h2 : (o + s * 2 ^ i) % 2 ^ i = o := by
    rw [Nat.add_mul_mod_self_right, Nat.mod_eq_of_lt ho]
  refine ⟨by rw [mod_succ, h1, h2], ?_⟩
  rw [Nat.pow_succ, ← Nat.div_div_eq_div_mul, h1]

theorem add_step (a b i : Nat) : (a + b) % 2 ^ (i + 1) = (a + b) % 2 ^ i ||| (a / 2 ^ i % 2 + b / 2 ^ i % 2 + car a b i) % 2 * 2 ^ i := by
  have ho := Nat.mod_lt (a + b) (pow_pos2 i)
  rw [add_cut, sum_split, (low_split ho).1, or_bit _ ho]

theorem car_step (a b i : Nat) : car a b (i + 1) = (a / 2 ^ i % 2 + b / 2 ^ i % 2 + car a b i) / 2 := by
  have ho := Nat.mod_lt (a + b) (pow_pos2 i)
  show (a % 2 ^ (i + 1) + b % 2 ^ (i + 1)) / 2 ^ (i + 1) = _
  rw [sum_split, (low_split ho).2]

/- what is taken away -/
theorem sub_cut {a b : Nat} (L : Nat) (h : L ≤ 64) : (a + (18446744073709551616 - b) % 18446744073709551616) % 2 ^ L = (a + (18446744073709551616 - b)) % 2 ^ L := by
  rw [Nat.add_mod, cut_64 h, ← Nat.add_mod]

/- products -/
theorem mul_step0 {a b i L : Nat} (h : b / 2 ^ i % 2 ≠ 1) : a * (b % 2 ^ i) % 2 ^ L = a * (b % 2 ^ (i + 1)) % 2 ^ L := by
  have : b / 2 ^ i % 2 = 0 := by omega
  rw [mod_succ, this, Nat.zero_mul, Nat.add_zero]

theorem mul_step1 {a b i L : Nat} (hL : L ≤ 64) (h : b / 2 ^ i % 2 = 1) : (a * (b % 2 ^ i) % 2 ^ L + a * 2 ^ i % 18446744073709551616) % 2 ^ L = a * (b % 2 ^ (i + 1)) % 2 ^ L := by
  rw [mod_succ, h, Nat.one_mul, Nat.mul_add, Nat.add_mod, cut_64 hL, Nat.mod_mod, ← Nat.add_mod]

theorem dbl_step (a i : Nat) : (a * 2 ^ i % 18446744073709551616 + a * 2 ^ i % 18446744073709551616) % 18446744073709551616 = a * 2 ^ (i + 1) % 18446744073709551616 := by
  rw [← Nat.add_mod, Nat.pow_succ, ← Nat.mul_assoc]
  congr 1
  omega

theorem mul_end (a b L : Nat) : a * (b % 2 ^ L) % 2 ^ L = a * b % 2 ^ L := by
  rw [Nat.mul_mod, Nat.mod_mod, ← Nat.mul_mod]

theorem mul_cut (a b m : Nat) : (a % m) * (b % m) % m = a * b % m := (Nat.mul_mod a b m).symm
theorem mul_cut1 (a b m : Nat) : (a % m) * b % m = a * b % m := by rw [Nat.mul_mod, Nat.mod_mod, ← Nat.mul_mod]
theorem mul_cut2 (a b m : Nat) : a * (b % m) % m = a * b % m := by rw [Nat.mul_mod, Nat.mod_mod, ← Nat.mul_mod]

/- powers -/
theorem div_bit (n j : Nat) : n / 2 ^ j = 2 * (n / 2 ^ (j + 1)) + n / 2 ^ j % 2 := by
  rw [Nat.pow_succ, ← Nat.div_div_eq_div_mul]
  omega

theorem pow_step0 {a n j m : Nat} (h : n / 2 ^ j % 2 ≠ 1) : (a ^ (n / 2 ^ (j + 1)) % m) * (a ^ (n / 2 ^ (j + 1)) % m) % m = a ^ (n / 2 ^ j) % m := by
  have : n / 2 ^ j % 2 = 0 := by omega
  rw [mul_cut, ← Nat.pow_add]
  congr 2
  have := div_bit n j
  omega

theorem pow_step1 {a n j m : Nat} (h : n / 2 ^ j % 2 = 1) : ((a ^ (n / 2 ^ (j + 1)) % m) * (a ^ (n / 2 ^ (j + 1)) % m) % m) * a % m = a ^ (n / 2 ^ j) % m := by
  rw [mul_cut, mul_cut1, ← Nat.pow_add, ← Nat.pow_succ]
  congr 2
  have := div_bit n j
  omega

theorem up_step0 {a n i m : Nat} (h : n / 2 ^ i % 2 ≠ 1) : a ^ (n % 2 ^ i) % m = a ^ (n % 2 ^ (i + 1)) % m := by
  have : n / 2 ^ i % 2 = 0 := by omega
  rw [mod_succ n, this, Nat.zero_mul, Nat.add_zero]

theorem up_step1 {a n i m : Nat} (h : n / 2 ^ i % 2 = 1) : (a ^ (n % 2 ^ i) % m) * (a ^ (2 ^ i) % m) % m = a ^ (n % 2 ^ (i + 1)) % m := by
  rw [mul_cut, ← Nat.pow_add, mod_succ n, h, Nat.one_mul]

theorem sq_step (a i m : Nat) : (a ^ (2 ^ i) % m) * (a ^ (2 ^ i) % m) % m = a ^ (2 ^ (i + 1)) % m := by
  rw [mul_cut, ← Nat.pow_add, Nat.pow_succ]
  congr 2
  omega

/- inverses -/
theorem inv_unique {a x y L : Nat} (hx : x < 2 ^ L) (hy : y < 2 ^ L) (h1 : a * x % 2 ^ L = 1 % 2 ^ L) (h2 : a * y % 2 ^ L = 1 % 2 ^ L) : x = y := by
  have e1 : x * (a * y) % 2 ^ L = x := by
    rw [← mul_cut2, h2, mul_cut2, Nat.mul_one, Nat.mod_eq_of_lt hx]
  have e2 : a * x * y % 2 ^ L = y := by
    rw [← mul_cut1, h1, mul_cut1, Nat.one_mul, Nat.mod_eq_of_lt hy]
  have e3 : x * (a * y) = a * x * y := by rw [Nat.mul_comm a x, Nat.mul_assoc]
  rw [← e1, e3, e2]

/- v comes to 1 with a, of k bits -/
def Inv (a v k : Nat) : Prop := ((2 ^ k : Nat) : Int) ∣ (a : Int) * v - 1

theorem Inv.mod {a v k : Nat} (h : Inv a v k) : a * v % 2 ^ k = 1 % 2 ^ k := by
  have h1 := Int.emod_emod_of_dvd
  unfold Inv at h
  have h2 : ((a : Int) * v) % ((2 ^ k : Nat) : Int) = 1 % ((2 ^ k : Nat) : Int) := Int.emod_eq_emod_iff_emod_sub_eq_zero.2 (Int.emod_eq_zero_of_dvd h)
  exact_mod_cast h2

theorem Inv.low {a v k j : Nat} (h : Inv a v k) (hj : j ≤ k) : Inv a v j :=
  Int.dvd_trans (Int.ofNat_dvd.2 (Nat.pow_dvd_pow 2 hj)) h

theorem odd_inv {a : Nat} (h : a % 2 = 1) : Inv a a 3 := by
  obtain ⟨k, hk⟩ : ∃ k : Int, (a : Int) = 8 * k + 1 ∨ (a : Int) = 8 * k + 3 ∨ (a : Int) = 8 * k + 5 ∨ (a : Int) = 8 * k + 7 := ⟨((a / 8 : Nat) : Int), by omega⟩
  unfold Inv
  rw [show ((2 ^ 3 : Nat) : Int) = 8 from rfl]
  obtain hk | hk | hk | hk := hk
  · exact ⟨k * (8 * k + 2), by rw [hk]; simp only [Int.mul_add, Int.add_mul, Int.mul_assoc, Int.mul_left_comm k]; omega⟩
  · exact ⟨(4 * k + 1) * (2 * k + 1), by rw [hk]; simp only [Int.mul_add, Int.add_mul, Int.mul_assoc, Int.mul_left_comm k]; omega⟩
  · exact ⟨(2 * k + 1) * (4 * k + 3), by rw [hk]; simp only [Int.mul_add, Int.add_mul, Int.mul_assoc, Int.mul_left_comm k]; omega⟩
  · exact ⟨(8 * k + 6) * (k + 1), by rw [hk]; simp only [Int.mul_add, Int.add_mul, Int.mul_assoc, Int.mul_left_comm k]; omega⟩

theorem newton {a v k j : Nat} (h : Inv a v k) (hj : j ≤ 2 * k) (hj' : j ≤ 64) :
    ∃ v' : Nat, v' < 18446744073709551616 ∧ ((v : Int) * ((2 - ((a : Int) * v) % 18446744073709551616) % 18446744073709551616)) % 18446744073709551616 = (v' : Int) ∧ Inv a v' j := by
  obtain ⟨t, ht⟩ : ∃ t : Int, t = (a : Int) * v := ⟨_, rfl⟩
  obtain ⟨z1, h1⟩ : ∃ z, (2 - t % 18446744073709551616) % 18446744073709551616 = 2 - t + 18446744073709551616 * z := ⟨t / 18446744073709551616 - (2 - t % 18446744073709551616) / 18446744073709551616, by omega⟩
  obtain ⟨r, hr⟩ : ∃ r, r = (v : Int) * (2 - t + 18446744073709551616 * z1) := ⟨_, rfl⟩
  obtain ⟨z2, h2⟩ : ∃ z, r % 18446744073709551616 = r + 18446744073709551616 * z := ⟨- (r / 18446744073709551616), by omega⟩
  rw [← ht, h1, ← hr]
  refine ⟨(r % 18446744073709551616).toNat, by omega, by omega, ?_⟩
  unfold Inv at h ⊢
  rw [← ht] at h
  rw [show (((r % 18446744073709551616).toNat : Nat) : Int) = r % 18446744073709551616 by omega, h2]
  have hM : ((2 ^ j : Nat) : Int) ∣ 18446744073709551616 := Int.ofNat_dvd.2 (Nat.pow_dvd_pow 2 (n := 64) hj')
  have hS : ((2 ^ j : Nat) : Int) ∣ (t - 1) * (t - 1) := by
    refine Int.dvd_trans ?_ (Int.mul_dvd_mul h h)
    rw [← Int.natCast_mul, ← Nat.pow_add]
    exact Int.ofNat_dvd.2 (Nat.pow_dvd_pow 2 (by omega))
  have e : (a : Int) * (r + 18446744073709551616 * z2) - 1 = - ((t - 1) * (t - 1)) + 18446744073709551616 * (t * z1 + a * z2) := by
    have e1 : (a : Int) * r = t * (2 - t + 18446744073709551616 * z1) := by rw [hr, ← Int.mul_assoc, ← ht]
    rw [Int.mul_add, e1, Int.mul_add, Int.mul_sub, Int.mul_add, Int.sub_mul, Int.mul_sub, Int.mul_left_comm t, Int.mul_left_comm (a : Int)]
    omega
  rw [e]
  exact Int.dvd_add (Int.dvd_neg.2 hS) (Int.dvd_trans hM ⟨_, rfl⟩)

/- the other way: bit by bit -/
theorem one_step (i : Nat) : 1 % 2 ^ (i + 1) = 1 % 2 ^ i + (if i = 0 then 1 else 0) * 2 ^ i := by
  have := mod_succ 1 i
  rw [this]
  congr 2
  by_cases h : i = 0
  · subst h
    rfl
  · rw [if_neg h, Nat.div_eq_of_lt]
    exact Nat.lt_of_lt_of_le (by omega : 1 < 2 ^ 1) (Nat.pow_le_pow_right (by omega) (by omega))

theorem inv_step0 {s i : Nat} (h : s % 2 ^ i = 1 % 2 ^ i) (hb : s / 2 ^ i % 2 = if i = 0 then 1 else 0) : s % 2 ^ (i + 1) = 1 % 2 ^ (i + 1) := by
  rw [mod_succ, h, hb, one_step]

theorem odd_shift {a i : Nat} (h : a % 2 = 1) : a * 2 ^ i % 2 ^ (i + 1) = 2 ^ i := by
  rw [Nat.pow_succ, Nat.mul_comm a, Nat.mul_mod_mul_left, h, Nat.mul_one]

theorem inv_step1 {a s i : Nat} (hi : i < 64) (ha : a % 2 = 1) (h : s % 2 ^ i = 1 % 2 ^ i) (hb : s / 2 ^ i % 2 ≠ if i = 0 then 1 else 0) :
    (s + a * 2 ^ i % 18446744073709551616) % 18446744073709551616 % 2 ^ (i + 1) = 1 % 2 ^ (i + 1) := by
  rw [cut_64 (by omega), Nat.add_mod, cut_64 (by omega), odd_shift ha, mod_succ s, h, one_step]
  by_cases h0 : i = 0
  · subst h0
    simp at hb ⊢
    omega
  · rw [if_neg h0] at hb ⊢
    have : s / 2 ^ i % 2 = 1 := by omega
    have h1 : 1 % 2 ^ i = 1 := Nat.mod_eq_of_lt (Nat.lt_of_lt_of_le (by omega : 1 < 2 ^ 1) (Nat.pow_le_pow_right (by omega) (by omega)))
    rw [this, h1]
    have e : 2 ^ (i + 1) = 2 * 2 ^ i := by rw [Nat.pow_succ, Nat.mul_comm]
    have hp : 1 < 2 ^ i := (Nat.lt_of_lt_of_le (by omega : 1 < 2 ^ 1) (Nat.pow_le_pow_right (by omega) (by omega)))
    rw [e, show 1 + 1 * 2 ^ i + 2 ^ i = 1 + 2 * 2 ^ i by omega, Nat.add_mod_right, Nat.mod_eq_of_lt (by omega)]
    simp

theorem sum_step {a o i : Nat} (_ho : o < 2 ^ i) : (a * o % 18446744073709551616 + a * 2 ^ i % 18446744073709551616) % 18446744073709551616 = a * (o + 2 ^ i) % 18446744073709551616 := by
  rw [← Nat.add_mod, Nat.mul_add]

/- sums of many -/
def sumTo (f : Nat → Nat) : Nat → Nat
  | 0 => 0
  | k + 1 => sumTo f k + f k

theorem sumTo_ext {f g : Nat → Nat} : ∀ {k : Nat}, (∀ j, j < k → f j = g j) → sumTo f k = sumTo g k
  | 0, _ => rfl
  | k + 1, h => by rw [sumTo, sumTo, sumTo_ext (fun j hj => h j (by omega)), h k (by omega)]

theorem sumTo_add (f g : Nat → Nat) : ∀ k, sumTo (fun j => f j + g j) k = sumTo f k + sumTo g k
  | 0 => rfl
  | k + 1 => by
    rw [sumTo, sumTo_add f g k, sumTo, sumTo]
    omega

theorem sumTo_mod (f : Nat → Nat) (m : Nat) : ∀ k, sumTo (fun j => f j % m) k % m = sumTo f k % m
  | 0 => rfl
  | k + 1 => by rw [sumTo, Nat.add_mod, sumTo_mod f m k, Nat.mod_mod, ← Nat.add_mod, sumTo]

end Go.Proofs.Ytgcbdjmlhjbacaa.Ri
