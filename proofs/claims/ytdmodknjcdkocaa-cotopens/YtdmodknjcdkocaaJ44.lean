/- What the program's calls answer. The law's two seeds; the chapter's example. -/
import Derived.Test.YtdmodknjcdkocaaJ43
import Derived.Test.YtdmodknjcdkocaaJ29
namespace Go.Proofs.Ytdmodknjcdkocaa.Co
open Go.RowKit Pg Ro
set_option maxRecDepth 100000
attribute [local go_sem] not_any T.mf_any

theorem psend_bad (W n : Int) (m N c cx : Nat) (a ax : Option Addr) (xs : List Nat) (w : World) (hx : T.Nl w N ax xs) (hs : Ri.Small xs) (hm : m ≤ 4096) (hN : N ≤ 24576) (ho : ok W n m N xs = false) :
    Calls Try.prog 8 #[.int .i64 W, .int .i64 n, .slice a m c, .slice ax N cx] w fun e w' => e = .returned (.tuple #[.slice none 0 0, .slice none 0 0, .int .i64 11]) ∧ Below w.heap.size w w' := by
  have kW := hide1 (filled_any W n m N cx ax xs w hx hs hm hN)
  rw [ho] at kW
  clear ho hx hs hm hN
  go_enter Try.func8, Try.ntmps8
  go_wp2_with fail
  go_at_call 20
  refine kW.out.mono ?_
  rintro e w0 ⟨rfl, q0, hq0⟩
  have B0 : Hid (Below w.heap.size w w0) := by rw [hq0]; exact below_drewN' (Below.refl _ _) q0
  clear hq0 kW
  go_wp2
  refine bodyPost_ret (results_tmp3 rfl _ _ _) rfl ?_
  exact ⟨rfl, B0.out⟩

/- as SPost, and how far the corrections may be cut -/
def SPostC (W n : Int) (m N : Nat) (f : Nat → List Nat) (xs : List Nat) (w : World) (e : Ending) (w' : World) : Prop :=
  ∃ a1 k1 c1 a2 k2 c2, e = .returned (.tuple #[.slice a1 k1 c1, .slice a2 k2 c2, .int .i64 (cod (ok W n m N xs))]) ∧ T.Nl w' k1 a1 (fixL W n m N f xs) ∧ T.Nl w' k2 a2 (ownL W n m N f xs) ∧ Below w.heap.size w w' ∧ k1 ≤ c1
theorem send_any (W n : Int) (m N c cx : Nat) (a ax : Option Addr) (f : Nat → List Nat) (xs : List Nat) (w : World) (hp : Pd w m a f) (hx : T.Nl w N ax xs) (hs : Ri.Small xs) (hm : m ≤ 4096) (hN : N ≤ 24576) (hcx : N ≤ cx) :
    Calls Try.prog 8 #[.int .i64 W, .int .i64 n, .slice a m c, .slice ax N cx] w (SPostC W n m N f xs w) := by
  unfold SPostC fixL ownL
  cases ho : ok W n m N xs with
  | true =>
    obtain ⟨B, k, rfl, rfl, h1, h2, h3, h4, hk, hf⟩ := ok_yes ho
    refine (psend_good B k m N c cx a ax f xs w hp hx hs h1 h2 h3 h4 hm hk hcx hf).mono ?_
    rintro e w' ⟨a1, c1, a2, c2, rfl, r1, r2, hb, hc⟩
    exact ⟨a1, N, c1, a2, N, c2, rfl, r1, r2, hb, hc⟩
  | false =>
    refine (psend_bad W n m N c cx a ax xs w hx hs hm hN ho).mono ?_
    rintro e w' ⟨rfl, hb⟩
    exact ⟨none, 0, 0, none, 0, 0, rfl, nl_none _, nl_none _, hb, Nat.le_refl _⟩

theorem preceive_bad (W n : Int) (m M N c cx : Nat) (a av ax : Option Addr) (xs : List Nat) (w : World) (hx : T.Nl w N ax xs) (hs : Ri.Small xs) (hm : m ≤ 4096) (hM : M ≤ 4096) (hN : N ≤ 24576) (ho : ok2 W n m M N xs = false) :
    Calls Try.prog 13 #[.int .i64 W, .int .i64 n, .slice a m c, .agg #[.int .i64 (M : Int), .slice av (T.need M 64) (T.need M 64)], .slice ax N cx] w fun e w' => e = .returned (.tuple #[.slice none 0 0, .int .i64 11]) ∧ Below w.heap.size w w' := by
  have kW := fun V (h : T.Nl V N ax xs) => hide1 (filled_any W n m N cx ax xs V h hs hm hN)
  have HX := hide1 hx
  by_cases hmM : m = M
  · subst hmM
    have ho1 : ok W n m N xs = false := by unfold ok2 at ho; rwa [decide_eq_true rfl, Bool.true_and] at ho
    rw [ho1] at kW
    have nm : ((m : Int) != (m : Int)) = false := by rw [bne_eq_false_iff_eq]
    clear ho ho1 hx hs hm hM hN
    go_enter Try.func13, Try.ntmps13
    go_upto_region 1 with (fail)
    generalize hX : World.alloc w _ = X
    have x0 : X.heap[w.heap.size]? = some (.cells #[.int .i64 (m : Int), .slice av (T.need m 64) (T.need m 64)] 37 (0, 0)) := by rw [← hX]; exact heap_alloc_new _ _
    have xb : Below w.heap.size w X := by rw [← hX]; exact (Below.refl _ _).alloc (Nat.le_refl _) _
    obtain ⟨gv, hgv⟩ : ∃ g, g = w.heap.size := ⟨_, rfl⟩
    rw [← hgv] at x0 ⊢
    obtain ⟨m0, m1, _⟩ := T.box2 x0
    have XB := hide1 xb
    clear hX x0 xb hgv
    go_wp2_with fail
    go_at_call 32
    refine (T.len_bl (m : Int) _ X rfl).mono ?_
    rintro e w1 ⟨rfl, hb1⟩
    have B1 := hide1 (XB.out.trans (hb1.mono XB.out.size))
    clear hb1 m0 m1
    go_wp2_with fail
    go_at_call 20
    refine (kW w1 (HX.out.below B1.out (Nat.le_refl _))).out.mono ?_
    rintro e w2 ⟨rfl, q0, hq0⟩
    have B2 : Hid (Below w.heap.size w w2) := by rw [hq0]; exact below_drewN' B1.out q0
    clear hq0 kW B1 nm XB HX
    go_wp2
    go_ret2
    exact ⟨rfl, B2.out⟩
  · have nm : ((M : Int) != (m : Int)) = true := by rw [bne_iff_ne]; omega
    clear ho hx hs hm hM hN hmM kW HX
    go_enter Try.func13, Try.ntmps13
    go_upto_region 1 with (fail)
    generalize hX : World.alloc w _ = X
    have x0 : X.heap[w.heap.size]? = some (.cells #[.int .i64 (M : Int), .slice av (T.need M 64) (T.need M 64)] 37 (0, 0)) := by rw [← hX]; exact heap_alloc_new _ _
    have xb : Below w.heap.size w X := by rw [← hX]; exact (Below.refl _ _).alloc (Nat.le_refl _) _
    obtain ⟨gv, hgv⟩ : ∃ g, g = w.heap.size := ⟨_, rfl⟩
    rw [← hgv] at x0 ⊢
    obtain ⟨m0, m1, _⟩ := T.box2 x0
    have XB := hide1 xb
    clear hX x0 xb hgv
    go_wp2_with fail
    go_at_call 32
    refine (T.len_bl (M : Int) _ X rfl).mono ?_
    rintro e w1 ⟨rfl, hb1⟩
    have B1 := hide1 (XB.out.trans (hb1.mono XB.out.size))
    clear hb1 m0 m1 XB
    go_wp2
    go_ret2
    exact ⟨rfl, B1.out⟩

theorem receive_any (W n : Int) (m M N c cx : Nat) (a av ax : Option Addr) (s : Nat → List Nat) (ch : List Bool) (xs : List Nat) (w : World) (hp : Sd w m a s) (hv : T.Vc 0 w M av ch) (hx : T.Nl w N ax xs) (hs : Ri.Small xs) (hm : m ≤ 4096) (hM : M ≤ 4096) (hN : N ≤ 24576) (hcx : N ≤ cx) :
    Calls Try.prog 13 #[.int .i64 W, .int .i64 n, .slice a m c, .agg #[.int .i64 (M : Int), .slice av (T.need M 64) (T.need M 64)], .slice ax N cx] w (RPost W n m M N s ch xs w) := by
  unfold RPost gotL
  cases ho : ok2 W n m M N xs with
  | true =>
    have ho2 := ho
    unfold ok2 at ho2
    rw [Bool.and_eq_true] at ho2
    obtain rfl := of_decide_eq_true ho2.1
    obtain ⟨B, k, rfl, rfl, h1, h2, h3, h4, hk, hf⟩ := ok_yes ho2.2
    refine (preceive_good B k m N c cx a av ax s ch xs w hp hv hx hs h1 h2 h3 h4 hm hk hcx hf).mono ?_
    rintro e w' ⟨a1, c1, rfl, r1, hb⟩
    exact ⟨a1, N, c1, rfl, r1, hb⟩
  | false =>
    refine (preceive_bad W n m M N c cx a av ax xs w hx hs hm hM hN ho).mono ?_
    rintro e w' ⟨rfl, hb⟩
    exact ⟨none, 0, 0, rfl, nl_none _, hb⟩

theorem open_any (W : Int) (m k ca cb : Nat) (a b : Option Addr) (xs ys : List Nat) (w : World) (ha : T.Nl w m a xs) (hb : T.Nl w k b ys) (hm : m ≤ 4194304) :
    Calls Try.prog 16 #[.int .i64 W, .slice a m ca, .slice b k cb] w (OPost W m k xs ys w) := by
  have kA := fun w ha hb => hide1 (addall_all W m k ca cb a b xs ys w ha hb hm)
  go_enter Try.func16, Try.ntmps16
  go_wp2_with fail
  go_at_call 35
  refine (kA _ ha hb).out.mono ?_
  rintro e w' ⟨a1, k1, c1, rfl, hn, hb⟩
  have HN := hide1 hn
  have HB := hide1 hb
  clear hn hb kA ha
  go_wp2
  go_ret2
  exact ⟨a1, k1, c1, rfl, HN.out, HB.out⟩
end Go.Proofs.Ytdmodknjcdkocaa.Co

namespace Go.Proofs.Ytdmodknjcdkocaa.Co
open Go.RowKit Pg Ro
set_option maxRecDepth 100000
attribute [local go_sem] not_any T.mf_any

/- calls that go well -/
theorem send_good {B n m N c cx : Nat} {a ax : Option Addr} {f : Nat → List Nat} {xs : List Nat} {w : World} (h : Calls Try.prog 8 #[.int .i64 (B : Int), .int .i64 (n : Int), .slice a m c, .slice ax N cx] w (SPostC (B : Int) (n : Int) m N f xs w)) (ho : ok (B : Int) (n : Int) m N xs = true) :
    Calls Try.prog 8 #[.int .i64 (B : Int), .int .i64 (n : Int), .slice a m c, .slice ax N cx] w fun e w' => ∃ a1 c1 a2 c2, e = .returned (.tuple #[.slice a1 N c1, .slice a2 N c2, .int .i64 0]) ∧ T.Nl w' N a1 (tl (fixF B n f (at0 xs)) N) ∧ T.Nl w' N a2 (tl (ownF B n f) N) ∧ Below w.heap.size w w' ∧ N ≤ c1 := by
  refine h.mono ?_
  unfold SPostC fixL ownL
  rw [ho, if_pos rfl, if_pos rfl]
  rintro e w' ⟨a1, k1, c1, a2, k2, c2, rfl, r1, r2, hb, hc⟩
  obtain rfl : N = k1 := by rw [← r1.len, tl_length]
  obtain rfl : N = k2 := by rw [← r2.len, tl_length]
  exact ⟨a1, c1, a2, c2, rfl, r1, r2, hb, hc⟩
theorem receive_good {B n m N c cx : Nat} {a av ax : Option Addr} {s : Nat → List Nat} {ch : List Bool} {xs : List Nat} {w : World} (h : Calls Try.prog 13 #[.int .i64 (B : Int), .int .i64 (n : Int), .slice a m c, .agg #[.int .i64 (m : Int), .slice av (T.need m 64) (T.need m 64)], .slice ax N cx] w (RPost (B : Int) (n : Int) m m N s ch xs w)) (ho : ok (B : Int) (n : Int) m N xs = true) :
    Calls Try.prog 13 #[.int .i64 (B : Int), .int .i64 (n : Int), .slice a m c, .agg #[.int .i64 (m : Int), .slice av (T.need m 64) (T.need m 64)], .slice ax N cx] w fun e w' => ∃ a1 c1, e = .returned (.tuple #[.slice a1 N c1, .int .i64 0]) ∧ T.Nl w' N a1 (tl (gotF B n s (fun j => ch.getD j false) (at0 xs)) N) ∧ Below w.heap.size w w' := by
  refine h.mono ?_
  unfold RPost gotL ok2
  rw [ho, decide_eq_true rfl, Bool.true_and, if_pos rfl]
  rintro e w' ⟨a1, k1, c1, rfl, r1, hb⟩
  obtain rfl : N = k1 := by rw [← r1.len, tl_length]
  exact ⟨a1, c1, rfl, r1, hb⟩
theorem open_good {B N ca cb : Nat} {a b : Option Addr} {F G : Nat → Nat} {w : World} (h : Calls Try.prog 16 #[.int .i64 (B : Int), .slice a N ca, .slice b N cb] w (OPost (B : Int) N N (tl F N) (tl G N) w)) (h1 : 1 ≤ B) (h2 : B ≤ 64) :
    Calls Try.prog 16 #[.int .i64 (B : Int), .slice a N ca, .slice b N cb] w fun e w' => ∃ a1 c1, e = .returned (.tuple #[.slice a1 N c1, .int .i64 0]) ∧ T.Nl w' N a1 (tl (fun k => (F k + G k) % 2 ^ B) N) ∧ Below w.heap.size w w' := by
  refine h.mono ?_
  unfold OPost sumL
  rw [decide_eq_true rfl, if_pos rfl]
  rintro e w' ⟨a1, k1, c1, rfl, r1, hb⟩
  obtain rfl : N = k1 := by rw [← r1.len, tl_length]
  refine ⟨a1, c1, rfl, ?_, hb⟩
  rwa [tl_congr (G := fun k => (F k + G k) % 2 ^ B) (fun k hk => by rw [tl_at hk, tl_at hk, Ri.fit_nat h1 h2])] at r1

/- two seeds -/
def sd1 (b : Nat) : List Nat := b :: List.replicate 31 0
theorem sd1_good {b : Nat} (h : b < 256) : (sd1 b).length = 32 ∧ Lt 256 (sd1 b) := by
  refine ⟨by simp [sd1], fun x hx => ?_⟩
  rcases List.mem_cons.1 hx with rfl | hx
  · exact h
  · have := List.eq_of_mem_replicate hx
    omega
def someF (j : Nat) : List Nat := pr (fun _ => sd1 1) (fun _ => sd1 2) j
theorem someF_good (j : Nat) : (someF j).length = 32 ∧ Lt 256 (someF j) := pr_good (fun _ => sd1_good (by decide)) (fun _ => sd1_good (by decide)) j
theorem some_any (w : World) : Calls Try.prog 18 #[] w fun e w' => ∃ g, e = .returned (.slice (some ⟨g, 0, none⟩) 1 1) ∧ Pd w' 1 (some ⟨g, 0, none⟩) someF ∧ Below w.heap.size w w' := by
  go_enter Try.func18, Try.ntmps18
  go_wp2
  go_ret
  refine ⟨w.heap.size, rfl, pd_own (base := 0) (e := 48) (c := 1) someF_good ⟨by kernel_rfl, .inr ⟨w.heap.size, 1, _, rfl, Nat.zero_le _, heap_alloc_new _ _, Nat.le_refl _, by unfold maxLen; omega, by kernel_rfl, by kernel_rfl⟩⟩, (Below.refl _ _).alloc (Nat.le_refl _) _⟩
end Go.Proofs.Ytdmodknjcdkocaa.Co
