/- GilboaFolds, where all may be. -/
import Derived.Test.YtgcbdjmlhjbacaaJ29
namespace Go.Proofs.Ytgcbdjmlhjbacaa.Gi
open Go.RowKit Ri
open Go.Proofs.Ytgcbdjmlhjbacaa.St (region_f take_f take_p skip_p ready_f ready2_f done_f)
set_option maxRecDepth 100000
attribute [local go_sem] Ri.not_any Ri.mf_any

/- what GilboaFolds calls, over letters -/
structure Ks (L n k M1 R N Q u : Nat) (xs ys ns ss ones oths : List Nat) (CL : List Bool) (CF : Nat → Bool) (S O T' P1 P2 RR : Nat → Nat) : Prop where
  fit : ∀ x : Nat, x < 18446744073709551616 → ∀ W, Calls Try.prog 19 #[.int .i64 (L : Int), .int .u64 (x : Int)] W fun e w' => e = .returned (.int .u64 ((x % 2 ^ L : Nat) : Int)) ∧ w' = W
  add : ∀ x y : Nat, x < 18446744073709551616 → y < 18446744073709551616 → ∀ W, Calls Try.prog 23 #[.int .i64 (L : Int), .int .u64 (x : Int), .int .u64 (y : Int)] W fun e w' => e = .returned (.int .u64 (((x + y) % 2 ^ L : Nat) : Int)) ∧ w' = W
  sub : ∀ x y : Nat, x < 18446744073709551616 → y < 18446744073709551616 → ∀ W, Calls Try.prog 22 #[.int .i64 (L : Int), .int .u64 (x : Int), .int .u64 (y : Int)] W fun e w' => e = .returned (.int .u64 (((x + (18446744073709551616 - y)) % 2 ^ L : Nat) : Int)) ∧ w' = W
  mul : ∀ x y : Nat, x < 18446744073709551616 → y < 18446744073709551616 → ∀ W, Calls Try.prog 24 #[.int .i64 (L : Int), .int .u64 (x : Int), .int .u64 (y : Int)] W fun e w' => e = .returned (.int .u64 ((x * y % 2 ^ L : Nat) : Int)) ∧ w' = W
  choices : ∀ W c a, Nl W k a xs → Calls Try.prog 7 #[.int .i64 (L : Int), .slice a k c] W fun e w' => ∃ av, e = .returned (.tuple #[.agg #[.int .i64 (Q : Int), .slice av (T.need Q 64) (T.need Q 64)], .int .i64 0]) ∧ T.Vc 0 w' Q av CL ∧ Below W.heap.size W w'
  get : ∀ W av j, T.Vc 0 W Q av CL → j < Q → Calls Try.prog 21 #[.agg #[.int .i64 (Q : Int), .slice av (T.need Q 64) (T.need Q 64)], .int .i64 (j : Int)] W fun e w' => e = .returned (.bool (CF j)) ∧ Below W.heap.size W w'
  spread : ∀ W c a, M1 ≤ c → Nl W M1 a ys → Calls Try.prog 11 #[.int .i64 (L : Int), .int .i64 (n : Int), .slice a M1 c] W fun e w' => ∃ a1 c1, e = .returned (.tuple #[.slice a1 N c1, .int .i64 0]) ∧ Nl w' N a1 ss ∧ Below W.heap.size W w'
  fold1 : ∀ W c a, N ≤ c → Nl W N a ones → Calls Try.prog 13 #[.int .i64 (L : Int), .int .i64 (n : Int), .slice a N c] W fun e w' => ∃ a1 c1, e = .returned (.tuple #[.slice a1 M1 c1, .int .i64 0]) ∧ Nl w' M1 a1 (tl P1 M1) ∧ Below W.heap.size W w'
  fold2 : ∀ W c a, N ≤ c → Nl W N a oths → Calls Try.prog 13 #[.int .i64 (L : Int), .int .i64 (n : Int), .slice a N c] W fun e w' => ∃ a1 c1, e = .returned (.tuple #[.slice a1 M1 c1, .int .i64 0]) ∧ Nl w' M1 a1 (tl P2 M1) ∧ Below W.heap.size W w'
  rows : ∀ W cx c ax a, M1 ≤ c → Nl W k ax xs → Nl W M1 a ys → Calls Try.prog 15 #[.int .i64 (L : Int), .int .i64 (n : Int), .slice ax k cx, .slice a M1 c] W fun e w' => ∃ a1 c1, e = .returned (.tuple #[.slice a1 M1 c1, .int .i64 0]) ∧ Nl w' M1 a1 (tl RR M1) ∧ Below W.heap.size W w'
  e0 : IntKind.i64.wrap ((n : Int) * (k : Int)) = (M1 : Int)
  e2 : IntKind.i64.wrap ((L : Int) * (n : Int)) = (R : Int)
  e3 : IntKind.i64.wrap ((R : Int) * (k : Int)) = (N : Int)
  e4 : IntKind.i64.wrap ((L : Int) * (k : Int)) = (Q : Int)
  ones : ones = tl O N
  oths : oths = tl T' N
  ss : ss = tl S N
  O' : ∀ t, O t = at0 ns (t % u) % 2 ^ L
  T'' : ∀ t, T' t = ((if CF (t / n) then S t else 0) + (18446744073709551616 - O t)) % 2 ^ L
  sS : ∀ t, S t < 18446744073709551616
  sO : ∀ t, O t < 18446744073709551616
  sP : ∀ t, P1 t < 18446744073709551616 ∧ P2 t < 18446744073709551616
  PR : ∀ t, t < M1 → (P1 t + P2 t) % 2 ^ L = RR t
  RM : ∀ t, t < M1 → RR t = at0 xs (t / n) * at0 ys t % 2 ^ L
  sx : ∀ t, at0 xs t < 18446744073709551616
  sy : ∀ t, at0 ys t < 18446744073709551616
  bN : N ≤ 4096
  bM : M1 ≤ 4096
  bQ : Q ≤ 4096
  dQ : ∀ t, t < N → t / n < Q
  dk : ∀ t, t < M1 → t / n < k

theorem ks_of {L n k u : Nat} (us l ns : List Nat) (h1 : 1 ≤ L) (h2 : L ≤ 64) (h3 : 1 ≤ n) (h4 : n ≤ 6) (hk8 : k ≤ 8) :
    ∃ M1 R N Q ss ones oths CL CF S O T' P1 P2 RR, M1 = k * n ∧ Ks L n k M1 R N Q u (tl (cutF L us) k) (tl (cutF L l) M1) ns ss ones oths CL CF S O T' P1 P2 RR := by
  obtain ⟨xs, hxs⟩ : ∃ x, x = tl (cutF L us) k := ⟨_, rfl⟩
  obtain ⟨ys, hys⟩ : ∃ x, x = tl (cutF L l) (k * n) := ⟨_, rfl⟩
  have lx : ∀ i, i < k → cutF L us i < 2 ^ L := fun i _ => Nat.mod_lt _ (pow_pos2 L)
  have ly : ∀ i, i < k * n → cutF L l i < 2 ^ L := fun i _ => Nat.mod_lt _ (pow_pos2 L)
  have sx : Small xs := by rw [hxs]; exact small_tl h2 lx
  have sy : Small ys := by rw [hys]; exact small_tl h2 ly
  have fx : fitsAll (L : Int) xs = true := by rw [hxs]; exact fits_tl h1 h2 lx
  have fy : fitsAll (L : Int) ys = true := by rw [hys]; exact fits_tl h1 h2 ly
  have hx : ∀ i, at0 xs i < 2 ^ L := fun i => by
    by_cases hi : i < k
    · rw [hxs, tl_at hi]
      exact lx i hi
    · have h0 : at0 xs i = 0 := by
        unfold at0
        rw [List.getD_eq_getElem?_getD, List.getElem?_eq_none (by rw [hxs, tl_length]; omega)]
        rfl
      rw [h0]
      exact pow_pos2 L
  have lO : ∀ i, i < k * (L * n) → mineF L u ns i < 2 ^ L := fun i _ => Nat.mod_lt _ (pow_pos2 L)
  have lT : ∀ i, i < k * (L * n) → othF L n u xs ys ns i < 2 ^ L := fun i _ => Nat.mod_lt _ (pow_pos2 L)
  have bR : L * n ≤ 384 := Nat.mul_le_mul h2 h4
  have bN : k * (L * n) ≤ 8 * 384 := Nat.mul_le_mul hk8 bR
  have bM : k * n ≤ 8 * 6 := Nat.mul_le_mul hk8 h4
  have bQ : k * L ≤ 8 * 64 := Nat.mul_le_mul hk8 h2
  refine ⟨k * n, L * n, k * (L * n), k * L, tl (spF L n ys) (k * (L * n)), tl (mineF L u ns) (k * (L * n)), tl (othF L n u xs ys ns) (k * (L * n)), tl (chF L xs) (k * L), chF L xs, spF L n ys, mineF L u ns, othF L n u xs ys ns, foF L n (tl (mineF L u ns) (k * (L * n))), foF L n (tl (othF L n u xs ys ns) (k * (L * n))), roF L n xs ys, rfl, ?_⟩
  rw [← hxs, ← hys]
  exact {
    fit := fun x hx W => rfit_any L x W h1 h2 hx
    add := fun x y hx hy W => radd_any L x y W h1 h2 hx hy
    sub := fun x y hx hy W => rsub_any L x y W h1 h2 hx hy
    mul := fun x y hx hy W => rmul_any L x y W h1 h2 hx hy
    choices := fun W c a h => (choices_good L k c a xs W h1 h2 (by omega) h sx fx).mono fun e w' ⟨av, he, hv, hb⟩ => ⟨av, he, hv.mono (Nat.zero_le _), hb⟩
    get := fun W av j hv hj => (T.get_any 0 W (k * L) av _ (j : Int) hv (by omega)).mono fun e w' ⟨he, hg⟩ => ⟨by
      rw [he, T.getI_nat, List.getD_eq_getElem?_getD, tl_get hj]
      rfl, T.gr_below hg⟩
    spread := fun W c a hc h => spread_good L n k (k * n) c a ys W h1 h2 h3 h4 rfl (by omega) hc h sy fy
    fold1 := fun W c a hc h => fold_good L n k _ c a _ W h1 h2 h3 h4 rfl (by omega) hc h (small_tl h2 lO) (fits_tl h1 h2 lO)
    fold2 := fun W c a hc h => fold_good L n k _ c a _ W h1 h2 h3 h4 rfl (by omega) hc h (small_tl h2 lT) (fits_tl h1 h2 lT)
    rows := fun W cx c ax a hc hx h => rows_good L n k _ cx c ax a xs ys W h1 h2 h3 h4 rfl (by omega) hc hx h
    e0 := by rw [← Int.natCast_mul, Nat.mul_comm, wrap_i64_nat (by omega)]
    e2 := by rw [← Int.natCast_mul, wrap_i64_nat (by omega)]
    e3 := by rw [← Int.natCast_mul, Nat.mul_comm, wrap_i64_nat (by omega)]
    e4 := by rw [← Int.natCast_mul, Nat.mul_comm, wrap_i64_nat (by omega)]
    ones := rfl
    oths := rfl
    ss := rfl
    O' := fun _ => rfl
    T'' := fun _ => rfl
    sS := fun t => cut_lt h2 _
    sO := fun t => cut_lt h2 _
    sP := fun t => ⟨cut_lt h2 _, cut_lt h2 _⟩
    PR := fun t ht => folds_come h1 h2 h3 xs ys ns hx ht
    RM := fun t _ => rfl
    sx := fun t => sx.at0 t
    sy := fun t => sy.at0 t
    bN := by omega
    bM := by omega
    bQ := by omega
    dQ := fun t ht => Nat.div_lt_of_lt_mul (by rw [Nat.mul_comm n, Nat.mul_assoc]; exact ht)
    dk := fun t ht => Nat.div_lt_of_lt_mul (by rw [Nat.mul_comm n]; exact ht) }
end Go.Proofs.Ytgcbdjmlhjbacaa.Gi
