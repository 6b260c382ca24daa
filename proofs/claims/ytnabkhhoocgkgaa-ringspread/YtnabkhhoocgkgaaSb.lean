/- The walk of RingSpread. -/
import Derived.Test.YtnabkhhoocgkgaaSa
import Derived.Test.YtnabkhhoocgkgaaN
namespace Go.Proofs.Ytnabkhhoocgkgaa
open Go.RowKit
set_option maxRecDepth 100000
attribute [local go_sem] not_any mf_any

def prodM (L : Nat) (xs ys : List Nat) (k n N : Nat) : List Nat := told (mval L xs ys k n) 0 N N

theorem mm_any (L m k n na nb N ca cb : Nat) (a b : Option Addr) (xs ys : List Nat) (w : World) (h1 : 1 ≤ L) (h2 : L ≤ 64) (S : Sides m k n na nb N) (ha : Nl w na a xs) (hb : Nl w nb b ys) :
    Calls Try.prog 32 #[.int .i64 L, .int .i64 m, .int .i64 k, .int .i64 n, .slice a na ca, .slice b nb cb] w fun e w' => ∃ a', e = .returned (.tuple #[.slice a' N N, .int .i64 0]) ∧ Nl w' N a' (prodM L xs ys k n N) ∧ Below w.heap.size w w' := by
  refine (matmul_any L m k n na nb N ca cb a b xs ys w h1 h2 S ha hb).mono ?_
  rintro e w' ⟨rfl, hr, hB⟩
  exact ⟨_, rfl, nl_told hr, hB⟩

/- the numbers' part: u, v, z, and what comes of them -/
structure Nums (L u v z r1 r2 r3 s1 r5 r6 s2 r9 : Nat) : Prop where
  m1 : ∀ w, Calls Try.prog 14 #[.int .i64 L, .int .u64 (u : Int), .int .u64 (v : Int)] w fun e w' => e = .returned (.int .u64 (r1 : Int)) ∧ w' = w
  m2 : ∀ w, Calls Try.prog 14 #[.int .i64 L, .int .u64 (r1 : Int), .int .u64 (z : Int)] w fun e w' => e = .returned (.int .u64 (r2 : Int)) ∧ w' = w
  m3 : ∀ w, Calls Try.prog 14 #[.int .i64 L, .int .u64 (v : Int), .int .u64 (z : Int)] w fun e w' => e = .returned (.int .u64 (r3 : Int)) ∧ w' = w
  m4 : ∀ w, Calls Try.prog 14 #[.int .i64 L, .int .u64 (u : Int), .int .u64 (r3 : Int)] w fun e w' => e = .returned (.int .u64 (r2 : Int)) ∧ w' = w
  a1 : ∀ w, Calls Try.prog 12 #[.int .i64 L, .int .u64 (v : Int), .int .u64 (z : Int)] w fun e w' => e = .returned (.int .u64 (s1 : Int)) ∧ w' = w
  m5 : ∀ w, Calls Try.prog 14 #[.int .i64 L, .int .u64 (u : Int), .int .u64 (s1 : Int)] w fun e w' => e = .returned (.int .u64 (r5 : Int)) ∧ w' = w
  m6 : ∀ w, Calls Try.prog 14 #[.int .i64 L, .int .u64 (u : Int), .int .u64 (z : Int)] w fun e w' => e = .returned (.int .u64 (r6 : Int)) ∧ w' = w
  a2 : ∀ w, Calls Try.prog 12 #[.int .i64 L, .int .u64 (r1 : Int), .int .u64 (r6 : Int)] w fun e w' => e = .returned (.int .u64 (r5 : Int)) ∧ w' = w
  a3 : ∀ w, Calls Try.prog 12 #[.int .i64 L, .int .u64 (u : Int), .int .u64 (v : Int)] w fun e w' => e = .returned (.int .u64 (s2 : Int)) ∧ w' = w
  s3 : ∀ w, Calls Try.prog 13 #[.int .i64 L, .int .u64 (s2 : Int), .int .u64 (v : Int)] w fun e w' => e = .returned (.int .u64 (r9 : Int)) ∧ w' = w
  f1 : ∀ w, Calls Try.prog 11 #[.int .i64 L, .int .u64 (u : Int)] w fun e w' => e = .returned (.int .u64 (r9 : Int)) ∧ w' = w

theorem nums_part (L u v z : Nat) (h1 : 1 ≤ L) (h2 : L ≤ 64) (hu : u < 18446744073709551616) (hv : v < 18446744073709551616) :
    ∃ r1 r2 r3 s1 r5 r6 s2 r9, Nums L u v z r1 r2 r3 s1 r5 r6 s2 r9 := by
  have M := fun a b w => mul_any L a b w
  have A := fun a b w => add_any L a b w
  simp only [fit_nat h1 h2] at M A
  refine ⟨u * v % 2 ^ L, u * v % 2 ^ L * z % 2 ^ L, v * z % 2 ^ L, (v + z) % 2 ^ L, u * ((v + z) % 2 ^ L) % 2 ^ L, u * z % 2 ^ L, (u + v) % 2 ^ L, u % 2 ^ L, M _ _, M _ _, M _ _, ?_, A _ _, M _ _, M _ _, ?_, A _ _, ?_, fun w => fit_yes L u w h1 h2 hu⟩
  · have := M u (v * z % 2 ^ L)
    rw [← assoc_num] at this
    exact this
  · have := A (u * v % 2 ^ L) (u * z % 2 ^ L)
    rw [← spread_num] at this
    exact this
  · have := fun w => sub_any L ((u + v) % 2 ^ L) v w hv
    simp only [fit_nat h1 h2, back_num h2 hv] at this
    exact this

set_option maxHeartbeats 8000000 in
theorem spread_any (L m k n na nb N la lb lc ca cb cc : Nat) (a b c : Option Addr) (xs ys zs : List Nat) (w : World) (h1 : 1 ≤ L) (h2 : L ≤ 64) (S : Sides m k n na nb N)
    (ha : Nl w la a xs) (hb : Nl w lb b ys) (hc : Nl w lc c zs) (sa : Small xs) (sb : Small ys) (g1 : na ≤ la) (g2 : nb ≤ lb) (g3 : nb ≤ lc) (p1 : la ≤ ca) (p2 : lb ≤ cb) (p3 : lc ≤ cc) :
    Calls Try.prog 7 #[.int .i64 L, .int .i64 m, .int .i64 k, .int .i64 n, .slice a la ca, .slice b lb cb, .slice c lc cc] w fun e w' => e = .returned (.bool true) ∧ Below w.heap.size w w' := by
  have c1 := fun w => hide1 (good_any L w)
  have c2 := fun w => hide1 (sized_any m k w)
  have c3 := fun w => hide1 (sized_any k n w)
  have c4 := fun w => hide1 (awake_any w)
  rw [decide_eq_true (by omega)] at c1
  rw [sized_yes S.m1 S.k1] at c2
  rw [sized_yes S.k1 S.n1] at c3
  have hs := S.small
  have e1 : IntKind.i64.wrap ((m : Int) * (k : Int)) = (na : Int) := by rw [← Int.natCast_mul, ← S.ha, wrap_i64_nat (by omega)]
  have e2 : IntKind.i64.wrap ((k : Int) * (n : Int)) = (nb : Int) := by rw [← Int.natCast_mul, ← S.hb, wrap_i64_nat (by omega)]
  have na1 : 1 ≤ na := by rw [S.ha]; exact Nat.mul_le_mul S.m1.1 S.k1.1
  have nb1 : 1 ≤ nb := by rw [S.hb]; exact Nat.mul_le_mul S.k1.1 S.n1.1
  have N1 := hs.2.2
  have nb2 := hs.2.1
  obtain ⟨ga, oa, rfl, _⟩ := ha.val (show 0 < la by omega)
  obtain ⟨gb, ob, rfl, _⟩ := hb.val (show 0 < lb by omega)
  obtain ⟨gc, oc, rfl, _⟩ := hc.val (show 0 < lc by omega)
  have HA := hide1 (nl_head ha g1)
  have HB := hide1 (nl_head hb g2)
  have HC := hide1 (nl_head hc g3)
  have SA := hide1 (small_head sa na)
  have SB := hide1 (small_head sb nb)
  have q1 : ¬ (la : Int) < na := by omega
  have q2 : ¬ (lb : Int) < nb := by omega
  have q3 : ¬ (lc : Int) < nb := by omega
  have k1 := fun w => run_head w ga oa la ca na (by omega)
  have k2 := fun w => run_head w gb ob lb cb nb (by omega)
  have k3 := fun w => run_head w gc oc lc cc nb (by omega)
  have HS := hide1 S
  generalize xs.take na = X at *
  generalize ys.take nb = Y at *
  generalize zs.take nb = Z at *
  clear ha hb hc sa sb g1 g2 g3 p1 p2 p3 S hs
  go_enter Try.func7, Try.ntmps7
  go_wp2_with fail
  refine (c1 _).out.mono ?_
  rintro e w' ⟨rfl, rfl⟩
  go_wp2_with fail
  refine (c2 _).out.mono ?_
  rintro e w' ⟨rfl, rfl⟩
  go_wp2_with fail
  refine (c3 _).out.mono ?_
  rintro e w' ⟨rfl, rfl⟩
  go_wp2_with fail
  go_quiet (fail)
  clear k1 k2 k3 e1 e2 q1 q2 q3 c1 c2 c3
  have A0 := hide1 (HA.out.drewN nq)
  have B0 := hide1 (HB.out.drewN nq)
  have C0 := hide1 (HC.out.drewN nq)
  have E0 := hide1 (below_drew2 (Below.refl w'.heap.size w') nq)
  obtain ⟨W, hW⟩ : ∃ W, w'.drewN nq = W := ⟨_, rfl⟩
  rw [hW] at A0 B0 C0 E0
  rw [hW]
  clear hW HA HB HC
  go_wp2_with fail
  refine (addall_any L _ nb cb cc _ _ Y Z B0.out C0.out (by omega)).mono ?_
  rintro e w1 ⟨x1, rfl, hz, hBe⟩
  have S1 := hide1 hz
  have A1 := hide1 (A0.out.below hBe (Nat.le_refl _))
  have B1 := hide1 (B0.out.below hBe (Nat.le_refl _))
  have C1 := hide1 (C0.out.below hBe (Nat.le_refl _))
  have E1 := hide1 (E0.out.trans (hBe.mono E0.out.size))
  clear hz hBe A0 B0 C0 E0
  go_wp2_with fail
  refine (mm_any L m k n na nb N ca nb _ _ X _ _ h1 h2 HS.out A1.out S1.out).mono ?_
  rintro e w2 ⟨x2, rfl, hz, hBe⟩
  have P2 := hide1 hz
  have A2 := hide1 (A1.out.below hBe (Nat.le_refl _))
  have B2 := hide1 (B1.out.below hBe (Nat.le_refl _))
  have C2 := hide1 (C1.out.below hBe (Nat.le_refl _))
  have S2 := hide1 (S1.out.below hBe (Nat.le_refl _))
  have E2 := hide1 (E1.out.trans (hBe.mono E1.out.size))
  clear hz hBe A1 B1 C1 S1 E1
  go_wp2_with fail
  refine (mm_any L m k n na nb N ca cb _ _ X Y _ h1 h2 HS.out A2.out B2.out).mono ?_
  rintro e w3 ⟨x3, rfl, hz, hBe⟩
  have Q3 := hide1 hz
  have A3 := hide1 (A2.out.below hBe (Nat.le_refl _))
  have B3 := hide1 (B2.out.below hBe (Nat.le_refl _))
  have C3 := hide1 (C2.out.below hBe (Nat.le_refl _))
  have S3 := hide1 (S2.out.below hBe (Nat.le_refl _))
  have P3 := hide1 (P2.out.below hBe (Nat.le_refl _))
  have E3 := hide1 (E2.out.trans (hBe.mono E2.out.size))
  clear hz hBe A2 B2 C2 S2 P2 E2
  go_wp2_with fail
  refine (mm_any L m k n na nb N ca cc _ _ X Z _ h1 h2 HS.out A3.out C3.out).mono ?_
  rintro e w4 ⟨x4, rfl, hz, hBe⟩
  have R4 := hide1 hz
  have A4 := hide1 (A3.out.below hBe (Nat.le_refl _))
  have B4 := hide1 (B3.out.below hBe (Nat.le_refl _))
  have C4 := hide1 (C3.out.below hBe (Nat.le_refl _))
  have S4 := hide1 (S3.out.below hBe (Nat.le_refl _))
  have P4 := hide1 (P3.out.below hBe (Nat.le_refl _))
  have Q4 := hide1 (Q3.out.below hBe (Nat.le_refl _))
  have E4 := hide1 (E3.out.trans (hBe.mono E3.out.size))
  clear hz hBe A3 B3 C3 S3 P3 Q3 E3
  go_wp2_with fail
  refine (addall_any L _ N N N _ _ _ _ Q4.out R4.out (by omega)).mono ?_
  rintro e w5 ⟨x5, rfl, hz, hBe⟩
  have T5 := hide1 hz
  have A5 := hide1 (A4.out.below hBe (Nat.le_refl _))
  have B5 := hide1 (B4.out.below hBe (Nat.le_refl _))
  have C5 := hide1 (C4.out.below hBe (Nat.le_refl _))
  have S5 := hide1 (S4.out.below hBe (Nat.le_refl _))
  have P5 := hide1 (P4.out.below hBe (Nat.le_refl _))
  have Q5 := hide1 (Q4.out.below hBe (Nat.le_refl _))
  have R5 := hide1 (R4.out.below hBe (Nat.le_refl _))
  have E5 := hide1 (E4.out.trans (hBe.mono E4.out.size))
  clear hz hBe A4 B4 C4 S4 P4 Q4 R4 E4
  go_wp2_with fail
  have HSp := hide1 (spread_lists X Y Z h1 h2 HS.out)
  have T5' := T5.out
  unfold prodM at T5'
  rw [← HSp.out] at T5'
  refine (nums_any _ N N N _ _ _ P5.out T5' (by omega)).mono ?_
  clear T5'
  rintro e w6 ⟨rfl, q6, hq⟩
  have A6 := hide1 (A5.out.drewN q6)
  have B6 := hide1 (B5.out.drewN q6)
  have C6 := hide1 (C5.out.drewN q6)
  have E6 := hide1 (below_drew2 E5.out q6)
  rw [← hq] at A6 B6 C6 E6
  clear hq A5 B5 C5 E5 S5 P5 Q5 R5 T5 HSp
  obtain ⟨ga', oa', ea, ha⟩ := A6.out.val (show 0 < na by omega)
  obtain ⟨gb', ob', eb, hb⟩ := B6.out.val (show 0 < nb by omega)
  obtain ⟨gc', oc', ec, hc⟩ := C6.out.val (show 0 < nb by omega)
  cases ea
  cases eb
  cases ec
  obtain ⟨r1, r2, r3, s1, r5, r6, s2, r9, hN⟩ := nums_part L (at0 X 0) (at0 Y 0) (at0 Z 0) h1 h2 (SA.out.at0 0) (SB.out.at0 0)
  obtain ⟨u, hu⟩ : ∃ u, u = at0 X 0 := ⟨_, rfl⟩
  obtain ⟨v, hv⟩ : ∃ v, v = at0 Y 0 := ⟨_, rfl⟩
  obtain ⟨z, hz⟩ : ∃ z, z = at0 Z 0 := ⟨_, rfl⟩
  rw [← hu, ← hv, ← hz] at hN
  rw [← hu] at ha
  rw [← hv] at hb
  rw [← hz] at hc
  have NN := hide1 hN
  clear hu hv hz hN A6 B6 C6 SA SB HS
  rw [Nat.add_zero] at ha hb hc
  go_wp2_with fail
  go_quiet (fail)
  have E7 := hide1 (below_drew2 E6.out nq)
  go_wp2_with fail
  refine (NN.out.m1 _).mono ?_
  rintro e w7 ⟨rfl, hw⟩
  cases hw
  go_wp2_with fail
  refine (NN.out.m2 _).mono ?_
  rintro e w7 ⟨rfl, hw⟩
  cases hw
  go_wp2_with fail
  refine (NN.out.m3 _).mono ?_
  rintro e w7 ⟨rfl, hw⟩
  cases hw
  go_wp2_with fail
  refine (NN.out.m4 _).mono ?_
  rintro e w7 ⟨rfl, hw⟩
  cases hw
  go_wp2_with fail
  refine (NN.out.a1 _).mono ?_
  rintro e w7 ⟨rfl, hw⟩
  cases hw
  go_wp2_with fail
  refine (NN.out.m5 _).mono ?_
  rintro e w7 ⟨rfl, hw⟩
  cases hw
  go_wp2_with fail
  refine (NN.out.m1 _).mono ?_
  rintro e w7 ⟨rfl, hw⟩
  cases hw
  go_wp2_with fail
  refine (NN.out.m6 _).mono ?_
  rintro e w7 ⟨rfl, hw⟩
  cases hw
  go_wp2_with fail
  refine (NN.out.a2 _).mono ?_
  rintro e w7 ⟨rfl, hw⟩
  cases hw
  go_wp2_with fail
  refine (NN.out.a3 _).mono ?_
  rintro e w7 ⟨rfl, hw⟩
  cases hw
  go_wp2_with fail
  refine (NN.out.s3 _).mono ?_
  rintro e w7 ⟨rfl, hw⟩
  cases hw
  go_wp2_with fail
  refine (NN.out.f1 _).mono ?_
  rintro e w7 ⟨rfl, hw⟩
  cases hw
  go_wp2_with fail
  refine (c4 _).out.mono ?_
  rintro e w7 ⟨rfl, hw⟩
  cases hw
  go_wp2
  go_ret
  exact ⟨rfl, E7.out⟩

theorem spr_all (w : World) (l m k n : Int) (la ca : Nat) (a : Option Addr) (xs : List Nat) (lb cb : Nat) (b : Option Addr) (ys : List Nat) (lc cc : Nat) (c : Option Addr) (zs : List Nat)
    (ha : Nl w la a xs) (sa : Small xs) (p1 : la ≤ ca) (hb : Nl w lb b ys) (sb : Small ys) (p2 : lb ≤ cb) (hc : Nl w lc c zs) (_sc : Small zs) (p3 : lc ≤ cc) :
    Calls Try.prog 7 #[.int .i64 l, .int .i64 m, .int .i64 k, .int .i64 n, .slice a la ca, .slice b lb cb, .slice c lc cc] w fun e w' => e = .returned (.bool true) ∧ Below w.heap.size w w' := by
  by_cases h : (1 ≤ l ∧ l ≤ 64) ∧ ((1 ≤ m ∧ m ≤ 6) ∧ (1 ≤ k ∧ k ≤ 6)) ∧ ((1 ≤ k ∧ k ≤ 6) ∧ (1 ≤ n ∧ n ≤ 6))
  · obtain ⟨hl, ⟨hm, hk⟩, _, hn⟩ := h
    obtain ⟨L, rfl, h1, h2⟩ := good_nat hl
    obtain ⟨M, rfl⟩ : ∃ M : Nat, m = M := ⟨m.toNat, by omega⟩
    obtain ⟨K, rfl⟩ : ∃ K : Nat, k = K := ⟨k.toNat, by omega⟩
    obtain ⟨N, rfl⟩ : ∃ N : Nat, n = N := ⟨n.toNat, by omega⟩
    have S : Sides M K N (M * K) (K * N) (M * N) := ⟨by omega, by omega, by omega, rfl, rfl, rfl⟩
    by_cases hf : la < M * K ∨ lb < K * N ∨ lc < K * N
    · exact (spread_few L M K N _ _ _ la lb lc ca cb cc a b c w h1 h2 S hf).mono fun e w' ⟨h3, h4⟩ => ⟨h3, h4 ▸ Below.refl _ _⟩
    · exact spread_any L M K N _ _ _ la lb lc ca cb cc a b c xs ys zs w h1 h2 S ha hb hc sa sb (by omega) (by omega) (by omega) p1 p2 p3
  · exact (spread_short l m k n la lb lc ca cb cc a b c w h).mono fun e w' ⟨h3, h4⟩ => ⟨h3, h4 ▸ Below.refl _ _⟩

end Go.Proofs.Ytnabkhhoocgkgaa
