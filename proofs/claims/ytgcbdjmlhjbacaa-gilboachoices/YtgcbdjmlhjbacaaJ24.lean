/- The document's Fold; Fold of both, of what is wrong too. -/
import Derived.Test.YtgcbdjmlhjbacaaJ23
namespace Go.Proofs.Ytgcbdjmlhjbacaa.Gi
open Go.RowKit Ri
set_option maxRecDepth 100000
attribute [local go_sem] Ri.not_any Ri.mf_any

theorem below2 {w : World} (o p : Obj) : Below w.heap.size w ((w.alloc o).alloc p) := (below1 o).alloc (by simp) p

def foS (L n : Nat) (l : List Nat) (i j k : Nat) : Nat := at0 l ((i * L + k) * n + j)
set_option maxHeartbeats 8000000 in
theorem rfold_good (L n q m c : Nat) (a : Option Addr) (l : List Nat) (w : World) (h1 : 1 ≤ L) (h2 : L ≤ 64) (h3 : 1 ≤ n) (h4 : n ≤ 6) (hm : m = q * (L * n)) (hmx : m ≤ 4096) (ha : Nl w m a l) (hs : Small l) (hf : fitsAll (L : Int) l = true) :
    Calls Try.prog 14 #[.int .i64 (L : Int), .int .i64 (n : Int), .slice a m c] w fun e w' => ∃ a1 c1, e = .returned (.tuple #[.slice a1 (q * n) c1, .int .i64 0]) ∧ Nl w' (q * n) a1 (tl (foF L n l) (q * n)) ∧ Below w.heap.size w w' := by
  have HA := hide1 ha
  have HS := hide1 hs
  have kW := fun w => hide1 (wrong_any (L : Int) (n : Int) w)
  rw [show bad (L : Int) (n : Int) = false by unfold bad; rw [okW_of h1 h2, okN_of h3 h4]; rfl] at kW
  have kF := fun w ha => hide1 (rfits_any L w m c a l ha hs (by omega) h1 h2)
  rw [hf] at kF
  have kA : Hid (∀ x y : Nat, x < 18446744073709551616 → y < 18446744073709551616 → ∀ W, Calls Try.prog 23 #[.int .i64 (L : Int), .int .u64 (x : Int), .int .u64 (y : Int)] W fun e w' => e = .returned (.int .u64 (((x + y) % 2 ^ L : Nat) : Int)) ∧ w' = W) := fun x y hx hy W => radd_any L x y W h1 h2 hx hy
  have hln : L * n ≤ 384 := Nat.mul_le_mul h2 h4
  have hln1 : 1 ≤ L * n := Nat.mul_pos h1 h3
  obtain ⟨R, hR⟩ : ∃ R, R = L * n := ⟨_, rfl⟩
  rw [← hR] at hln hln1 hm
  have e0 : IntKind.i64.wrap ((L : Int) * (n : Int)) = (R : Int) := by rw [← Int.natCast_mul, ← hR, wrap_i64_nat (by omega)]
  have em : (m : Int).tmod (R : Int) = 0 := by rw [hm]; exact (congrArg (Nat.cast (R := Int)) (Nat.mul_mod_left q R))
  have eq : (m : Int).tdiv (R : Int) = (q : Int) := by rw [hm]; exact (congrArg (Nat.cast (R := Int)) (Nat.mul_div_left q hln1))
  have hn0 : (R : Int) ≠ 0 := by omega
  have hn1 : ¬ R = 0 := by omega
  have hqm : q ≤ 4096 := by
    have : q * 1 ≤ q * R := Nat.mul_le_mul_left q hln1
    omega
  have HM := hide1 hm
  have HR := hide1 hR
  have H2 := hide1 h2
  obtain ⟨F, hF⟩ : ∃ F, F = foF L n l := ⟨_, rfl⟩
  have HF : Shy (∀ i j, j < n → F (i * n + j) = sumTo (foS L n l i j) L % 2 ^ L) := ⟨fun i j hj => by rw [hF, foF, place_div hj, place_mod hj]; rfl⟩
  have hS : q * n ≤ 4096 * 6 := Nat.mul_le_mul hqm h4
  rw [← hF]
  clear hm hs hF hf h1 hR
  go_enter Try.func14, Try.ntmps14
  go_wp2_with fail
  go_at_call 18
  refine (kW _).out.mono ?_
  rintro e w0 ⟨rfl, he0⟩
  obtain rfl := he0.symm
  go_wp2_with fail
  go_at_call 29
  refine (kF _ ha).out.mono ?_
  rintro e w0 ⟨rfl, q0, hq0⟩
  have B0 : Hid (Below w.heap.size w w0) := by rw [hq0]; exact below_drewN (Below.refl _ _) q0
  clear hq0 ha kW kF
  go_wp2
  go_loopw [8, 9] (fun v8 v9 wr => ∃ i p : Nat, i ≤ q ∧ p = i * n ∧ v9 = .int .i64 i ∧ Wo w.heap.size wr v8 (tl F p) ∧ Below w.heap.size w wr) (fun _ v9 _ => q - (intOf v9).toNat)
  case atStart => exact ⟨0, 0, Nat.zero_le _, (Nat.zero_mul _).symm, rfl, Wo.nil _ _, B0.out⟩
  case round =>
    obtain ⟨i, p, hi, hp, rfl, ho, hbe⟩ := hrel
    obtain ⟨la, lc, rfl⟩ := ho.form
    by_cases hil : i < q
    · have HO := hide1 ho
      have HE := hide1 hbe
      have HP := hide1 hp
      have hiq : (i : Int) < (q : Int) := by omega
      clear ho hbe hp
      go_wp2
      go_loopw [8, 10] (fun v8 v10 wr => ∃ j p : Nat, j ≤ n ∧ p = i * n + j ∧ v10 = .int .i64 j ∧ Wo w.heap.size wr v8 (tl F p) ∧ Below w.heap.size w wr) (fun _ v10 _ => n - (intOf v10).toNat)
      case atStart => exact ⟨0, p, Nat.zero_le _, HP.out, rfl, HO.out, HE.out⟩
      case round =>
        clear HO HE HP
        obtain ⟨j, p, hj, hp, rfl, ho, hbe⟩ := hrel
        obtain ⟨la, lc, rfl⟩ := ho.form
        rw [tl_length] at ho
        rw [tl_length]
        by_cases hjl : j < n
        · have hpm : p + 1 ≤ 4194304 := by
            have t1 : i * n + j ≤ q * n := place_le hil hj
            rw [← hp] at t1
            omega
          obtain ⟨f, hf0⟩ : ∃ f, f = foS L n l i j := ⟨_, rfl⟩
          have hv := HF.out i j hjl
          rw [← hp, ← hf0] at hv
          have HV := hide1 hv
          have HO := hide1 ho
          have HE := hide1 hbe
          have HP := hide1 hp
          have HF0 := hide1 hf0
          clear ho hbe hp hv hf0
          go_wp2
          go_loopw [11, 12] (fun v11 v12 w2 => ∃ k : Nat, k ≤ L ∧ v11 = .int .u64 ((sumTo f k % 2 ^ L : Nat) : Int) ∧ v12 = .int .i64 k ∧ w2 = wr) (fun _ v12 _ => L - (intOf v12).toNat)
          case atStart => exact ⟨0, Nat.zero_le _, by rw [sumTo, Nat.zero_mod]; rfl, rfl, rfl⟩
          case round =>
            obtain ⟨k, hk, rfl, rfl, rfl⟩ := hrel
            by_cases hkl : k < L
            · obtain ⟨r, hr⟩ : ∃ r, r = i * L := ⟨_, rfl⟩
              obtain ⟨u, hu⟩ : ∃ u, u = r + k := ⟨_, rfl⟩
              obtain ⟨y, hy⟩ : ∃ y, y = u * n := ⟨_, rfl⟩
              obtain ⟨z, hz⟩ : ∃ z, z = y + j := ⟨_, rfl⟩
              have huq : u < q * L := by rw [hu, hr]; exact place_lt hil hkl
              have hzm : z < m := by
                rw [hz, hy, HM.out, HR.out, ← Nat.mul_assoc]
                exact place_lt huq hjl
              have hqL : q * L ≤ 4096 * 64 := Nat.mul_le_mul hqm H2.out
              have e1 : IntKind.i64.wrap ((i : Int) * (L : Int)) = (r : Int) := by rw [← Int.natCast_mul, ← hr, wrap_i64_nat (by omega)]
              have e2 : IntKind.i64.wrap ((r : Int) + (k : Int)) = (u : Int) := by rw [← Int.natCast_add, ← hu, wrap_i64_nat (by omega)]
              have e3 : IntKind.i64.wrap ((u : Int) * (n : Int)) = (y : Int) := by rw [← Int.natCast_mul, ← hy, wrap_i64_nat (by omega)]
              have e4 : IntKind.i64.wrap ((y : Int) + (j : Int)) = (z : Int) := by rw [← Int.natCast_add, ← hz, wrap_i64_nat (by omega)]
              obtain ⟨g, o, rfl, hc⟩ := (HA.out.below HE.out (Nat.le_refl _)).val hzm
              have hfk : f k = at0 l z := by rw [HF0.out, foS, hz, hy, hu, hr]
              have hx := small_at HS.out z
              obtain ⟨x, hx0⟩ : ∃ x, x = at0 l z := ⟨_, rfl⟩
              rw [← hx0] at hc hfk hx
              have hst : (sumTo f k % 2 ^ L + x) % 2 ^ L = sumTo f (k + 1) % 2 ^ L := by rw [sumTo, hfk, Nat.mod_add_mod]
              have hsl : sumTo f k % 2 ^ L < 18446744073709551616 := cut_lt H2.out _
              have kA1 := fun W => hide1 (kA.out (sumTo f k % 2 ^ L) x hsl hx W)
              rw [hst] at kA1
              obtain ⟨s, hs0⟩ : ∃ s, s = sumTo f k % 2 ^ L := ⟨_, rfl⟩
              obtain ⟨s', hs1⟩ : ∃ s', s' = sumTo f (k + 1) % 2 ^ L := ⟨_, rfl⟩
              rw [← hs0, ← hs1] at kA1
              rw [← hs0]
              have HS1 := hide1 hs1
              have hzs : (z : Int) < (m : Int) := by omega
              have hz0 : (0 : Int) ≤ (z : Int) := by omega
              clear hr hu hy hz huq hzm hqL hfk hx hx0 hst hsl hs0 hs1
              go_wp2_with (first
                | (go_at_call 23; refine (kA1 _).out.mono ?_; rintro e w' ⟨rfl, he9⟩; obtain rfl := he9.symm; clear he9)
                | fail)
              go_roundw
              case rel => exact ⟨k + 1, hkl, by rw [HS1.out], by go_num, by first | rfl | trivial⟩
              case measure => simp [intOf]; omega
            · obtain rfl : k = L := by omega
              obtain ⟨v, hv0⟩ : ∃ v, v = F p := ⟨_, rfl⟩
              rw [← HV.out, ← hv0]
              have HV0 := hide1 hv0
              clear hv0
              go_wp2_with (first
                | (at_builtin; go_must (refine wpList_append_Wo rfl _ _ rfl (c := 1) (A := tl F p) (B := w.heap.size) rfl rfl (HO.out.below (below1 _)) (new_word _ _) (by rw [tl_length]; omega) (by have := HE.out.size; rw [World.size_alloc]; omega) ?_); intro a' c' w8 ro8 gr8 wh8; have HX8 : Hid (Wo w.heap.size w8 (.slice a' ((tl F p).length + 1) c') (tl F p ++ [v]) ∧ Below w.heap.size w w8) := ⟨ro8, grow_below HE.out (below1 _) HO.out gr8⟩; clear ro8 gr8 wh8; rw [tl_length] at HX8; rw [tl_length])
                | fail)
              rw [HV0.out, ← tl_succ] at HX8
              go_roundw
              case rel => exact ⟨j + 1, p + 1, hjl, by rw [HP.out]; rfl, by go_num, HX8.out.1, HX8.out.2⟩
              case measure => simp [intOf]; omega
        · obtain rfl : j = n := by omega
          have HO := hide1 ho
          have HE := hide1 hbe
          have HP := hide1 hp
          clear ho hbe hp
          go_wp2
          go_roundw
          case rel => exact ⟨i + 1, p, hil, by rw [HP.out, ← Nat.succ_mul], by go_num, HO.out, HE.out⟩
          case measure => simp [intOf]; omega
    · obtain rfl : i = q := by omega
      have n1 := ho.rd
      rw [tl_length] at n1
      rw [tl_length]
      rw [hp] at n1 ⊢
      have HN := hide1 n1
      have HE := hide1 hbe
      clear n1 ho hbe hp
      go_wp2
      go_ret2
      exact ⟨_, _, rfl, HN.out, HE.out⟩

set_option maxHeartbeats 4000000 in
theorem fold_bad (W n : Int) (m c : Nat) (a : Option Addr) (l : List Nat) (w : World) (hmx : m ≤ 4096) (ha : Nl w m a l) (hs : Small l) (ho : okS W n (W.toNat * n.toNat) m l = false) :
    Calls Try.prog 13 #[.int .i64 W, .int .i64 n, .slice a m c] w fun e w' => e = .returned (.tuple #[.slice none 0 0, .int .i64 11]) ∧ Below w.heap.size w w' := by
  have kN := fun w => hide1 (side_any n w)
  have kF : Hid (∀ X, Below w.heap.size w X → Calls Try.prog 25 #[.int .i64 W, .slice a m c] X fun e w' => e = .returned (.bool (okW W && fitsAll W l)) ∧ ∃ q, w' = X.drewN q) := fun X hX => are_any W X m c a l (ha.below hX (Nat.le_refl _)) hs (by omega)
  cases hn : okN n with
  | false =>
    rw [hn] at kN
    clear ho ha hs kF
    go_enter Try.func13, Try.ntmps13
    go_wp2_with (first | (go_at_call 30; refine (kN _).out.mono ?_; rintro e w' ⟨rfl, he0⟩; obtain rfl := he0.symm) | fail)
    go_ret2
    exact ⟨rfl, below2 _ _⟩
  | true =>
    rw [hn] at kN
    cases hf : okW W && fitsAll W l with
    | false =>
      rw [hf] at kF
      clear ho ha hs hf
      go_enter Try.func13, Try.ntmps13
      go_wp2_with (first | (go_at_call 30; refine (kN _).out.mono ?_; rintro e w' ⟨rfl, he0⟩; obtain rfl := he0.symm) | (go_at_call 25; refine (kF.out _ (below2 _ _)).mono ?_; rintro e w' ⟨rfl, q, rfl⟩) | fail)
      go_ret2
      exact ⟨rfl, below_drewN (below2 _ _) q⟩
    | true =>
      rw [hf] at kF
      obtain ⟨k, rfl, h3, h4⟩ := okN_nat hn
      have e1 : okW W = true ∧ fitsAll W l = true := by simpa using hf
      obtain ⟨L, rfl, h1, h2⟩ := okW_nat e1.1
      have hmk : m % (L * k) ≠ 0 := fun e => by
        have : okS (L : Int) (k : Int) ((L : Int).toNat * (k : Int).toNat) m l = true := by
          unfold okS
          rw [e1.1, e1.2, hn, show ((k : Int)).toNat = k from rfl, show ((L : Int)).toNat = L from rfl, e]
          rfl
        rw [this] at ho
        cases ho
      have hln : L * k ≤ 384 := Nat.mul_le_mul h2 h4
      have hln1 : 1 ≤ L * k := Nat.mul_pos h1 h3
      obtain ⟨R, hR⟩ : ∃ R, R = L * k := ⟨_, rfl⟩
      rw [← hR] at hln hln1 hmk
      have e2 : IntKind.i64.wrap ((L : Int) * (k : Int)) = (R : Int) := by rw [← Int.natCast_mul, ← hR, wrap_i64_nat (by omega)]
      have hn0 : (R : Int) ≠ 0 := by omega
      have hn1 : ¬ R = 0 := by omega
      obtain ⟨r, hr⟩ : ∃ r, r = m % R := ⟨_, rfl⟩
      have em : (m : Int).tmod (R : Int) = (r : Int) := by rw [hr]; rfl
      have hr0 : ((r : Int) != 0) = true := by rw [bne_iff_ne]; omega
      have hcs : ∀ q, (((w.alloc (.cells #[.int .i64 (L : Int)] 3)).alloc (.cells #[.int .i64 (k : Int)] 3)).drewN q).cell? ⟨w.heap.size, 0, none⟩ = some (.int .i64 (L : Int)) ∧ (((w.alloc (.cells #[.int .i64 (L : Int)] 3)).alloc (.cells #[.int .i64 (k : Int)] 3)).drewN q).cell? ⟨w.heap.size + 1, 0, none⟩ = some (.int .i64 (k : Int)) := fun q => by
        have b3 : ((w.alloc (.cells #[.int .i64 (L : Int)] 3)).alloc (.cells #[.int .i64 (k : Int)] 3)).heap[w.heap.size]? = some (.cells #[.int .i64 (L : Int)] 3 (0, 0)) := (Below.heap_alloc _ _ _ (by simp)).trans (heap_alloc_new _ _)
        have b4 := heap_alloc_new (w.alloc (.cells #[.int .i64 (L : Int)] 3)) (.cells #[.int .i64 (k : Int)] 3)
        rw [World.size_alloc] at b4
        exact ⟨cell_of_row _ _ 0 _ _ _ b3, cell_of_row _ _ 0 _ _ _ b4⟩
      clear ho ha hs hf hr hmk hn hR e1
      go_enter Try.func13, Try.ntmps13
      go_wp2_with (first | (go_at_call 30; refine (kN _).out.mono ?_; rintro e w' ⟨rfl, he0⟩; obtain rfl := he0.symm) | (go_at_call 25; refine (kF.out _ (below2 _ _)).mono ?_; rintro e w' ⟨rfl, q, rfl⟩; have kc := (hcs q).1; have kd := (hcs q).2) | fail)
      go_ret2
      exact ⟨rfl, below_drewN (below2 _ _) q⟩

set_option maxHeartbeats 4000000 in
theorem rfold_bad (W n : Int) (m c : Nat) (a : Option Addr) (l : List Nat) (w : World) (hmx : m ≤ 4096) (ha : Nl w m a l) (hs : Small l) (ho : okS W n (W.toNat * n.toNat) m l = false) :
    Calls Try.prog 14 #[.int .i64 W, .int .i64 n, .slice a m c] w fun e w' => e = .returned (.tuple #[.slice none 0 0, .int .i64 11]) ∧ Below w.heap.size w w' := by
  have kW := fun w => hide1 (wrong_any W n w)
  have HB := hide1 (Below.refl w.heap.size w)
  cases hb : bad W n with
  | true =>
    rw [hb] at kW
    clear ho ha hs
    go_enter Try.func14, Try.ntmps14
    go_wp2_with (first | (go_at_call 18; refine (kW _).out.mono ?_; rintro e w' ⟨rfl, he0⟩; obtain rfl := he0.symm) | fail)
    go_ret2
    exact ⟨rfl, HB.out⟩
  | false =>
    rw [hb] at kW
    obtain ⟨hW, hn⟩ := bad_no hb
    obtain ⟨L, rfl, h1, h2⟩ := okW_nat hW
    obtain ⟨k, rfl, h3, h4⟩ := okN_nat hn
    have hln : L * k ≤ 384 := Nat.mul_le_mul h2 h4
    have hln1 : 1 ≤ L * k := Nat.mul_pos h1 h3
    obtain ⟨R, hR⟩ : ∃ R, R = L * k := ⟨_, rfl⟩
    rw [← hR] at hln hln1
    have e2 : IntKind.i64.wrap ((L : Int) * (k : Int)) = (R : Int) := by rw [← Int.natCast_mul, ← hR, wrap_i64_nat (by omega)]
    have hn0 : (R : Int) ≠ 0 := by omega
    have hn1 : ¬ R = 0 := by omega
    obtain ⟨r, hr⟩ : ∃ r, r = m % R := ⟨_, rfl⟩
    have em : (m : Int).tmod (R : Int) = (r : Int) := by rw [hr]; rfl
    by_cases h0 : r = 0
    · have hf : fitsAll (L : Int) l = false := by
        unfold okS at ho
        rw [hW, hn, show ((k : Int)).toNat = k from rfl, show ((L : Int)).toNat = L from rfl, ← hR, ← hr, h0] at ho
        simpa using ho
      have kF := hide1 (rfits_any L w m c a l ha hs (by omega) h1 h2)
      rw [hf] at kF
      subst h0
      clear ho ha hs hf hr hW hn hb hR
      go_enter Try.func14, Try.ntmps14
      go_wp2_with (first | (go_at_call 18; refine (kW _).out.mono ?_; rintro e w' ⟨rfl, he0⟩; obtain rfl := he0.symm) | (go_at_call 29; refine kF.out.mono ?_; rintro e w' ⟨rfl, q, rfl⟩) | fail)
      go_ret2
      exact ⟨rfl, below_drewN (Below.refl _ _) q⟩
    · have hr0 : ((r : Int) != 0) = true := by rw [bne_iff_ne]; omega
      clear ho ha hs hr hW hn hb hR
      go_enter Try.func14, Try.ntmps14
      go_wp2_with (first | (go_at_call 18; refine (kW _).out.mono ?_; rintro e w' ⟨rfl, he0⟩; obtain rfl := he0.symm) | fail)
      go_ret2
      exact ⟨rfl, HB.out⟩

/- what both tell -/
def foL (W n : Int) (m : Nat) (l : List Nat) : List Nat := tl (foF W.toNat n.toNat l) (m / W.toNat)
theorem fold_parts {m L n : Nat} (h1 : 1 ≤ L) (h : m % (L * n) = 0) : m = m / (L * n) * (L * n) ∧ m / (L * n) * n = m / L := by
  have hq := mul_parts h
  refine ⟨hq, ?_⟩
  obtain ⟨q, hQ⟩ : ∃ q, q = m / (L * n) := ⟨_, rfl⟩
  rw [← hQ] at hq ⊢
  rw [hq, Nat.mul_left_comm, Nat.mul_div_cancel_left _ (by omega)]
theorem fold_any (W n : Int) (m c : Nat) (a : Option Addr) (l : List Nat) (w : World) (hmx : m ≤ 4096) (hc : m ≤ c) (ha : Nl w m a l) (hs : Small l) :
    Calls Try.prog 13 #[.int .i64 W, .int .i64 n, .slice a m c] w (NPost (okS W n (W.toNat * n.toNat) m l) (foL W n m l) w) := by
  cases ho : okS W n (W.toNat * n.toNat) m l with
  | false => exact (fold_bad W n m c a l w hmx ha hs ho).mono fun e w' ⟨he, hb⟩ => npost_bad he hb
  | true =>
    obtain ⟨hW, hn, hm, hf⟩ := okS_yes ho
    obtain ⟨L, rfl, h1, h2⟩ := okW_nat hW
    obtain ⟨k, rfl, h3, h4⟩ := okN_nat hn
    obtain ⟨hq, e⟩ := fold_parts h1 (show m % (L * k) = 0 from hm)
    have h := fold_good L k (m / (L * k)) m c a l w h1 h2 h3 h4 hq hmx hc ha hs hf
    rw [e] at h
    exact h.mono fun e w' ⟨a1, c1, he, hn, hb⟩ => npost_good he hn hb
theorem rfold_any (W n : Int) (m c : Nat) (a : Option Addr) (l : List Nat) (w : World) (hmx : m ≤ 4096) (ha : Nl w m a l) (hs : Small l) :
    Calls Try.prog 14 #[.int .i64 W, .int .i64 n, .slice a m c] w (NPost (okS W n (W.toNat * n.toNat) m l) (foL W n m l) w) := by
  cases ho : okS W n (W.toNat * n.toNat) m l with
  | false => exact (rfold_bad W n m c a l w hmx ha hs ho).mono fun e w' ⟨he, hb⟩ => npost_bad he hb
  | true =>
    obtain ⟨hW, hn, hm, hf⟩ := okS_yes ho
    obtain ⟨L, rfl, h1, h2⟩ := okW_nat hW
    obtain ⟨k, rfl, h3, h4⟩ := okN_nat hn
    obtain ⟨hq, e⟩ := fold_parts h1 (show m % (L * k) = 0 from hm)
    have h := rfold_good L k (m / (L * k)) m c a l w h1 h2 h3 h4 hq hmx ha hs hf
    rw [e] at h
    exact h.mono fun e w' ⟨a1, c1, he, hn, hb⟩ => npost_good he hn hb
end Go.Proofs.Ytgcbdjmlhjbacaa.Gi
