/- The document's Receive, of what is wrong too. What both shares come to. Do numbers fill their transfers; the numbers of a transfer; a number where a choice is 1; a made list. -/
import Derived.Test.YtdmodknjcdkocaaJ38
import Derived.Test.YtdmodknjcdkocaaJ21
namespace Go.Proofs.Ytdmodknjcdkocaa.Co
open Go.RowKit Pg Ro
set_option maxRecDepth 100000
attribute [local go_sem] not_any T.mf_any

/- may all of it be, with so many choices? -/
def ok2 (W n : Int) (m M N : Nat) (xs : List Nat) : Bool := decide (m = M) && ok W n m N xs

set_option maxHeartbeats 4000000 in
theorem rreceive_bad (W n : Int) (m M N c cc cx : Nat) (a ac ax : Option Addr) (xs : List Nat) (w : World) (hx : T.Nl w N ax xs) (hs : Ri.Small xs) (hm : m ≤ 4096) (hM : M ≤ 4096) (_hN : N ≤ 24576) (ho : ok2 W n m M N xs = false) :
    Calls Try.prog 14 #[.int .i64 W, .int .i64 n, .slice a m c, .slice ac M cc, .slice ax N cx] w fun e w' => e = .returned (.tuple #[.slice none 0 0, .int .i64 11]) ∧ Below w.heap.size w w' := by
  have kW := fun w => hide1 (wrong_any W n w)
  have HB := hide1 (Below.refl w.heap.size w)
  cases hb : bad W n with
  | true =>
    rw [hb] at kW
    clear hb ho hx hs
    go_enter Try.func14, Try.ntmps14
    go_wp2_with fail
    go_at_call 26
    refine (kW _).out.mono ?_
    rintro e w0 ⟨rfl, he0⟩
    obtain rfl := he0.symm
    clear kW
    go_wp2
    go_ret2
    exact ⟨rfl, HB.out⟩
  | false =>
    rw [hb] at kW
    by_cases hmM : m = M
    · subst hmM
      have ho1 : ok W n m N xs = false := by unfold ok2 at ho; rwa [decide_eq_true rfl, Bool.true_and] at ho
      have nm : ((m : Int) != (m : Int)) = false := by rw [bne_eq_false_iff_eq]
      obtain ⟨B, k, rfl, rfl, h1, h2, h3, h4⟩ := bad_no hb
      have hq : k * m ≤ 24576 := Nat.le_trans (Nat.mul_le_mul h4 hm) (by decide)
      have e1 : IntKind.i64.wrap ((k : Int) * (m : Int)) = ((k * m : Nat) : Int) := by rw [← Int.natCast_mul, wrap_i64_nat (by omega)]
      by_cases hn : N = k * m
      · have hf : Ri.fitsAll (B : Int) xs = false := by
          unfold ok at ho1
          rw [hb, Bool.not_false, Bool.true_and, decide_eq_true (by rw [hn, Int.natCast_mul]), Bool.true_and] at ho1
          exact ho1
        have kF := fun w hx => hide1 (Ri.rfits_any B w N cx ax xs (ri_nl hx) hs (by omega) h1 h2)
        rw [hf] at kF
        have nn : ((N : Int) != (N : Int)) = false := by rw [bne_eq_false_iff_eq]
        rw [← hn] at e1
        clear hb ho ho1 h1 h2 h3 h4 hn hq hm hM hf
        go_enter Try.func14, Try.ntmps14
        go_wp2_with fail
        go_at_call 26
        refine (kW _).out.mono ?_
        rintro e w0 ⟨rfl, he0⟩
        obtain rfl := he0.symm
        go_wp2_with fail
        go_at_call 17
        refine (kF _ hx).out.mono ?_
        rintro e w1 ⟨rfl, q0, hq0⟩
        have B0 : Hid (Below w.heap.size w w1) := by rw [hq0]; exact below_drewN' (Below.refl _ _) q0
        clear hq0 hx kW kF
        go_wp2
        go_ret2
        exact ⟨rfl, B0.out⟩
      · obtain ⟨Q, hQ⟩ : ∃ Q, Q = k * m := ⟨_, rfl⟩
        rw [← hQ] at e1 hn
        have nn : ((N : Int) != (Q : Int)) = true := by rw [bne_iff_ne]; omega
        clear hb ho ho1 h1 h2 h3 h4 hn hq hm hM hQ hx hs _hN
        go_enter Try.func14, Try.ntmps14
        go_wp2_with fail
        go_at_call 26
        refine (kW _).out.mono ?_
        rintro e w0 ⟨rfl, he0⟩
        obtain rfl := he0.symm
        clear kW
        go_wp2
        go_ret2
        exact ⟨rfl, HB.out⟩
    · have nm : ((m : Int) != (M : Int)) = true := by rw [bne_iff_ne]; omega
      clear hb ho hm hM hx hs _hN hmM
      go_enter Try.func14, Try.ntmps14
      go_wp2_with fail
      go_at_call 26
      refine (kW _).out.mono ?_
      rintro e w0 ⟨rfl, he0⟩
      obtain rfl := he0.symm
      clear kW
      go_wp2
      go_ret2
      exact ⟨rfl, HB.out⟩

/- what Receive answers: shares, or why there are none -/
def gotL (W n : Int) (m M N : Nat) (s : Nat → List Nat) (ch : List Bool) (xs : List Nat) : List Nat := if ok2 W n m M N xs then tl (gotF W.toNat n.toNat s (fun j => ch.getD j false) (at0 xs)) N else []
def RPost (W n : Int) (m M N : Nat) (s : Nat → List Nat) (ch : List Bool) (xs : List Nat) (w : World) (e : Ending) (w' : World) : Prop :=
  ∃ a1 k1 c1, e = .returned (.tuple #[.slice a1 k1 c1, .int .i64 (cod (ok2 W n m M N xs))]) ∧ T.Nl w' k1 a1 (gotL W n m M N s ch xs) ∧ Below w.heap.size w w'
theorem rreceive_any (W n : Int) (m M N c cc cx : Nat) (a ac ax : Option Addr) (s : Nat → List Nat) (ch : List Bool) (xs : List Nat) (w : World) (hp : Sd w m a s) (hv : T.Bl w M ac ch) (hx : T.Nl w N ax xs) (hs : Ri.Small xs) (hm : m ≤ 4096) (hM : M ≤ 4096) (hN : N ≤ 24576) :
    Calls Try.prog 14 #[.int .i64 W, .int .i64 n, .slice a m c, .slice ac M cc, .slice ax N cx] w (RPost W n m M N s ch xs w) := by
  unfold RPost gotL
  cases ho : ok2 W n m M N xs with
  | true =>
    have ho2 := ho
    unfold ok2 at ho2
    rw [Bool.and_eq_true] at ho2
    obtain rfl := of_decide_eq_true ho2.1
    obtain ⟨B, k, rfl, rfl, h1, h2, h3, h4, hk, hf⟩ := ok_yes ho2.2
    refine (rreceive_good B k m N c cc cx a ac ax s ch xs w hp hv hx hs h1 h2 h3 h4 hm hk hf).mono ?_
    rintro e w' ⟨a1, c1, rfl, r1, hb⟩
    exact ⟨a1, N, c1, rfl, r1, hb⟩
  | false =>
    refine (rreceive_bad W n m M N c cc cx a ac ax xs w hx hs hm hM hN ho).mono ?_
    rintro e w' ⟨rfl, hb⟩
    exact ⟨none, 0, 0, rfl, nl_none _, hb⟩
end Go.Proofs.Ytdmodknjcdkocaa.Co

namespace Go.Proofs.Ytdmodknjcdkocaa.Co
open Go.RowKit Pg Ro
set_option maxRecDepth 100000
attribute [local go_sem] not_any T.mf_any

theorem cut64 {B : Nat} (h : B ≤ 64) : ∃ c, 18446744073709551616 = 2 ^ B * c := ⟨2 ^ (64 - B), by rw [← Nat.pow_add, show B + (64 - B) = 64 by omega]⟩
theorem open_yes {B x a b : Nat} (hB : B ≤ 64) (hx : x < 2 ^ B) (ha : a < 2 ^ B) (hb : b < 2 ^ B) : (ownV B a + (b + fixV B x a b) % 2 ^ B) % 2 ^ B = x := by
  obtain ⟨c, hc⟩ := cut64 hB
  have h1 := Ro.pow_le64 hB
  unfold ownV fixV
  generalize 2 ^ B = M at *
  rw [Nat.add_mod_mod, Nat.mod_add_mod, ← Nat.add_assoc, Nat.add_mod_mod, show 18446744073709551616 - a + b + (x + a + (18446744073709551616 - b)) = x + 18446744073709551616 * 2 by omega, hc, Nat.mul_assoc, Nat.add_mul_mod_self_left, Nat.mod_eq_of_lt hx]
theorem open_no {B a : Nat} (hB : B ≤ 64) (ha : a < 2 ^ B) : (ownV B a + a) % 2 ^ B = 0 := by
  obtain ⟨c, hc⟩ := cut64 hB
  have h1 := Ro.pow_le64 hB
  unfold ownV
  generalize 2 ^ B = M at *
  rw [Nat.mod_add_mod, show 18446744073709551616 - a + a = 18446744073709551616 by omega, hc, Nat.mul_mod_right]
theorem pick_true (s t : List Nat) : pick true s t = t := rfl
theorem pick_false (s t : List Nat) : pick false s t = s := rfl
theorem gotV_true (B l f : Nat) : gotV B true l f = (l + f) % 2 ^ B := rfl
theorem gotV_false (B l f : Nat) : gotV B false l f = l := rfl
/- at each place both shares come to the number, where the choice is 1, and to 0 else -/
theorem opens {B n k : Nat} {f s : Nat → List Nat} {X Y : Nat → Nat} {ch : Nat → Bool} (h2 : B ≤ 64) (h3 : 1 ≤ n) (hX : X k < 2 ^ B) (hs : s (k / n) = pick (ch (k / n)) (f (2 * (k / n))) (f (2 * (k / n) + 1))) (hY : Y k = fixF B n f X k) :
    (ownF B n f k + gotF B n s ch Y k) % 2 ^ B = if ch (k / n) = true then X k else 0 := by
  have hi : k % n < n := Nat.mod_lt _ (by omega)
  rw [ownF, gotF, hY, fixF, hs]
  clear hs hY
  generalize k / n = j
  have ha := nb_lt (f (2 * j)) h2 hi
  have hb := nb_lt (f (2 * j + 1)) h2 hi
  by_cases hc : ch j = true
  · rw [hc, pick_true, gotV_true, if_pos rfl]
    exact open_yes h2 hX ha hb
  · rw [Bool.not_eq_true] at hc
    rw [hc, pick_false, gotV_false, if_neg Bool.false_ne_true]
    exact open_no h2 ha
theorem gotF_lt {B n : Nat} (h2 : B ≤ 64) (h3 : 1 ≤ n) (s : Nat → List Nat) (ch : Nat → Bool) (Y : Nat → Nat) (k : Nat) : gotF B n s ch Y k < 2 ^ B := by
  have hi : k % n < n := Nat.mod_lt _ (by omega)
  unfold gotF gotV
  split
  · exact Nat.mod_lt _ (pow_pos2 B)
  · exact nb_lt _ h2 hi
theorem tl_lt64 {F : Nat → Nat} {B n : Nat} (h2 : B ≤ 64) (h : ∀ k, F k < 2 ^ B) : Ri.Small (tl F n) := fun j x hj => by
  have hl := (List.getElem?_eq_some_iff.1 hj).1
  rw [tl_length] at hl
  rw [tl_get hl] at hj
  obtain rfl := Option.some.inj hj
  exact Nat.lt_of_lt_of_le (h j) (Ro.pow_le64 h2)
theorem tl_fits {F : Nat → Nat} {B n : Nat} (h1 : 1 ≤ B) (h2 : B ≤ 64) (h : ∀ k, k < n → F k < 2 ^ B) : Ri.fitsAll (B : Int) (tl F n) = true := decide_eq_true fun x hx => by
  obtain ⟨k, hk, rfl⟩ := List.mem_map.1 hx
  rw [Ri.fit_nat h1 h2]
  exact Nat.mod_eq_of_lt (h k (List.mem_range.1 hk))
theorem told_tl (f : Nat → Nat) (m : Nat) : Ri.told f 0 m m = tl f m := by
  apply List.ext_getElem?
  intro j
  by_cases h : j < m
  · rw [tl_get h, Ri.told_get h, if_pos h]
  · rw [List.getElem?_eq_none (by rw [Ri.told_length]; omega), List.getElem?_eq_none (by rw [tl_length]; omega)]
/- lists added -/
def sumL (W : Int) (m : Nat) (xs ys : List Nat) : List Nat := tl (fun k => Ri.fit W (at0 xs k + at0 ys k)) m
def OPost (W : Int) (m k : Nat) (xs ys : List Nat) (w : World) (e : Ending) (w' : World) : Prop :=
  ∃ a1 k1 c1, e = .returned (.tuple #[.slice a1 k1 c1, .int .i64 (cod (decide (m = k)))]) ∧ T.Nl w' k1 a1 (if m = k then sumL W m xs ys else []) ∧ Below w.heap.size w w'
theorem addall_all (W : Int) (m k ca cb : Nat) (a b : Option Addr) (xs ys : List Nat) (w : World) (ha : T.Nl w m a xs) (hb : T.Nl w k b ys) (hm : m ≤ 4194304) :
    Calls Try.prog 35 #[.int .i64 W, .slice a m ca, .slice b k cb] w (OPost W m k xs ys w) := by
  unfold OPost
  by_cases h : m = k
  · subst h
    refine (Ri.addall_any W w m ca cb a b xs ys (ri_nl ha) (ri_nl hb) hm).mono ?_
    rintro e w' ⟨a', rfl, hn, hb⟩
    refine ⟨a', m, m, by rw [decide_eq_true rfl]; rfl, ?_, hb⟩
    rw [if_pos rfl]
    have h := t_nl hn
    unfold Ri.sums at h
    rw [told_tl] at h
    exact h
  · refine (Ri.addall_no W w m k ca cb a b h).mono ?_
    rintro e w' ⟨rfl, rfl⟩
    refine ⟨none, 0, 0, by rw [decide_eq_false h]; rfl, ?_, Below.refl _ _⟩
    rw [if_neg h]
    exact nl_none _
end Go.Proofs.Ytdmodknjcdkocaa.Co

namespace Go.Proofs.Ytdmodknjcdkocaa.Co
open Go.RowKit Pg Ro
set_option maxRecDepth 100000
attribute [local go_sem] not_any T.mf_any

theorem own_cap {w : World} {base n c : Nat} {e : TypeId} {a : Option Addr} {xs : List Value} (h : w.ownsRow base e 1 (.slice a n c) n xs) : n ≤ c := by
  rcases h.2 with ⟨h1, rfl⟩ | ⟨g, cap, cur, h1, _, _, hc, _⟩
  · exact Nat.zero_le _
  · cases h1
    exact hc

/- a number, where a choice is 1, else 0 -/
def tms (b : Bool) (x : Nat) : Nat := if b then x else 0
theorem times_any (b : Bool) (x : Nat) (w : World) : Calls Try.prog 33 #[.bool b, .int .u64 (x : Int)] w fun e w' => e = .returned (.int .u64 (tms b x : Nat)) ∧ w' = w := by
  cases b with
  | true =>
    go_enter Try.func33, Try.ntmps33
    go_wp2
    go_ret
    exact ⟨rfl, rfl⟩
  | false =>
    go_enter Try.func33, Try.ntmps33
    go_wp2
    go_ret
    exact ⟨rfl, rfl⟩

/- a part of a list -/
theorem run_part (g o N cx p q : Nat) (hpq : p ≤ q) (hq : q ≤ cx) (hp : p < cx) (w : World) : (Instr.slice 23 (.slice (some ⟨g, o, none⟩) N cx) (some (.int .i64 (p : Int))) (some (.int .i64 (q : Int))) none).run Try.prog w = .ok (.slice (some ⟨g, o + p, none⟩) (q - p) (cx - p)) w := by
  have a1 : (0 : Int) ≤ (p : Int) := by omega
  have a2 : (0 : Int) ≤ (q : Int) := by omega
  have a3 : ¬ cx = p := by omega
  simp [Instr.slice, run_underlying Try.underlying23, Instr.sliceBounds, run_sliceBound, a1, a2, a3, hpq, hq, Addr.add]

theorem carried_any (n j N cx g o : Nat) (w : World) (h1 : 1 ≤ n) (h4 : n ≤ 6) (hj : j ≤ 4096) (hN : j * n + n ≤ N) (hc : N ≤ cx) :
    Calls Try.prog 22 #[.int .i64 (n : Int), .int .i64 (j : Int), .slice (some ⟨g, o, none⟩) N cx] w fun e w' => e = .returned (.slice (some ⟨g, o + j * n, none⟩) n (cx - j * n)) ∧ w' = w := by
  obtain ⟨q, hq⟩ : ∃ q, q = j * n := ⟨_, rfl⟩
  obtain ⟨r, hr⟩ : ∃ r, r = q + n := ⟨_, rfl⟩
  have hqb : q ≤ 24576 := by rw [hq]; exact Nat.mul_le_mul hj h4
  have e1 : IntKind.i64.wrap ((j : Int) * (n : Int)) = (q : Int) := by rw [← Int.natCast_mul, ← hq, wrap_i64_nat (by omega)]
  have e0 : (((j + 1 : Nat) : Int)) * (n : Int) = (r : Int) := by rw [← Int.natCast_mul, Nat.succ_mul, ← hq, hr]
  have e2 : IntKind.i64.wrap (((j : Int) + 1) * (n : Int)) = (r : Int) := by
    rw [show (j : Int) + 1 = ((j + 1 : Nat) : Int) by omega, e0, wrap_i64_nat (by omega)]
  have hs := fun W => run_part g o N cx q r (by omega) (by rw [← hq] at hN; omega) (by rw [← hq] at hN; omega) W
  rw [show r - q = n by omega] at hs
  rw [← hq]
  clear hN hq e0 hr
  go_enter Try.func22, Try.ntmps22
  go_wp2
  go_ret
  exact ⟨rfl, rfl⟩

set_option maxHeartbeats 4000000 in
theorem filled_any (W n : Int) (m N cx : Nat) (ax : Option Addr) (xs : List Nat) (w : World) (hx : T.Nl w N ax xs) (hs : Ri.Small xs) (hm : m ≤ 4096) (_hN : N ≤ 24576) :
    Calls Try.prog 20 #[.int .i64 W, .int .i64 n, .int .i64 (m : Int), .slice ax N cx] w fun e w' => e = .returned (.bool (ok W n m N xs)) ∧ ∃ q, w' = w.drewN q := by
  by_cases hb : W < 1 ∨ 64 < W ∨ n < 1 ∨ 6 < n
  · have ho : ok W n m N xs = false := by rw [ok, show bad W n = true from decide_eq_true (by omega)]; rfl
    rw [ho]
    clear ho hx hs hm _hN
    by_cases h4 : W < 1
    · have d1 : decide ((1 : Int) ≤ W) = false := decide_eq_false (by omega)
      clear hb
      go_enter Try.func20, Try.ntmps20
      go_wp2
      go_ret
      exact ⟨rfl, 0, rfl⟩
    · have d1 : decide ((1 : Int) ≤ W) = true := decide_eq_true (by omega)
      by_cases h6 : 64 < W
      · have d2 : decide (W ≤ (64 : Int)) = false := decide_eq_false (by omega)
        clear hb
        go_enter Try.func20, Try.ntmps20
        go_wp2
        go_ret
        exact ⟨rfl, 0, rfl⟩
      · have d2 : decide (W ≤ (64 : Int)) = true := decide_eq_true (by omega)
        by_cases h8 : n < 1
        · have d3 : decide ((1 : Int) ≤ n) = false := decide_eq_false (by omega)
          clear hb
          go_enter Try.func20, Try.ntmps20
          go_wp2
          go_ret
          exact ⟨rfl, 0, rfl⟩
        · have d3 : decide ((1 : Int) ≤ n) = true := decide_eq_true (by omega)
          have d4 : decide (n ≤ (6 : Int)) = false := decide_eq_false (by omega)
          clear hb
          go_enter Try.func20, Try.ntmps20
          go_wp2
          go_ret
          exact ⟨rfl, 0, rfl⟩
  · have hb0 : bad W n = false := decide_eq_false hb
    obtain ⟨B, k, rfl, rfl, h1, h2, h3, h4⟩ := bad_no hb0
    have hq : k * m ≤ 24576 := Nat.le_trans (Nat.mul_le_mul h4 hm) (by decide)
    have e1 : IntKind.i64.wrap ((k : Int) * (m : Int)) = ((k * m : Nat) : Int) := by rw [← Int.natCast_mul, wrap_i64_nat (by omega)]
    have d1 : decide ((1 : Int) ≤ (B : Int)) = true := decide_eq_true (by omega)
    have d2 : decide ((B : Int) ≤ (64 : Int)) = true := decide_eq_true (by omega)
    have d3 : decide ((1 : Int) ≤ (k : Int)) = true := decide_eq_true (by omega)
    have d4 : decide ((k : Int) ≤ (6 : Int)) = true := decide_eq_true (by omega)
    unfold ok
    rw [hb0, Bool.not_false, Bool.true_and]
    rw [← Int.natCast_mul]
    obtain ⟨Q, hQ⟩ : ∃ Q, Q = k * m := ⟨_, rfl⟩
    rw [← hQ] at e1 ⊢
    by_cases hn : N = Q
    · have kF := hide1 (Ri.fits_any (B : Int) w N cx ax xs (ri_nl hx) hs (by omega))
      subst hn
      have qq : ((N : Int) == (N : Int)) = true := beq_self_eq_true _
      rw [decide_eq_true rfl, Bool.true_and]
      generalize Ri.fitsAll (B : Int) xs = t at *
      clear hb hb0 hx hs hm _hN hq hQ h1 h2 h3 h4
      go_enter Try.func20, Try.ntmps20
      go_wp2_with fail
      go_at_call 38
      refine kF.out.mono ?_
      rintro e w1 ⟨rfl, q0, rfl⟩
      go_wp2
      go_ret
      exact ⟨rfl, q0, rfl⟩
    · have qq : ((N : Int) == (Q : Int)) = false := by rw [beq_eq_false_iff_ne]; omega
      rw [decide_eq_false (by omega), Bool.false_and]
      clear hb hb0 hx hs hm _hN hq hQ h1 h2 h3 h4 hn
      go_enter Try.func20, Try.ntmps20
      go_wp2
      go_ret
      exact ⟨rfl, 0, rfl⟩

/- a made list is the call's own -/
def madeRow (N : Nat) : Obj := .cells (madeCells #[Value.int .u64 0] N) 49 (0, 0)
theorem made_own {w : World} {base g N : Nat} (hb : base ≤ g) (hN : N ≤ 24576) (h : w.heap[g]? = some (madeRow N)) (F : Nat → Nat) : w.ownsRow base 49 1 (.slice (some ⟨g, 0, none⟩) 0 N) 0 (V.u64s (tl F 0)) :=
  ⟨rfl, .inr ⟨g, N, _, rfl, hb, h, Nat.zero_le _, by unfold maxLen; omega, by rw [size_madeCells, Nat.mul_one], by rw [Nat.zero_mul]; rfl⟩⟩
end Go.Proofs.Ytdmodknjcdkocaa.Co
