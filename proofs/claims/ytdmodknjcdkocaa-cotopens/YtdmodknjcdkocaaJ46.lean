/- The walk of CotSends. The walk of CotReceives. -/
import Derived.Test.YtdmodknjcdkocaaJ45
namespace Go.Proofs.Ytdmodknjcdkocaa.Co
open Go.RowKit Pg Ro
set_option maxRecDepth 100000
attribute [local go_sem] not_any T.mf_any

theorem fixL_len {W n : Int} {m N : Nat} {f : Nat → List Nat} {xs : List Nat} : (fixL W n m N f xs).length ≤ N := by
  unfold fixL
  split
  · rw [tl_length]; exact Nat.le_refl _
  · exact Nat.zero_le _
theorem ownL_len {W n : Int} {m N : Nat} {f : Nat → List Nat} {xs : List Nat} : (ownL W n m N f xs).length ≤ N := by
  unfold ownL
  split
  · rw [tl_length]; exact Nat.le_refl _
  · exact Nat.zero_le _

theorem sends_else (W n : Int) (m N c cx : Nat) (a ax : Option Addr) (w : World) (hbig : 30 < m ∨ 200 < N) :
    Calls Try.prog 3 #[.int .i64 W, .int .i64 n, .slice a m c, .slice ax N cx] w fun e w' => e = .returned (.bool true) ∧ Below w.heap.size w w' := by
  have kA := fun w => hide1 (awake_any w)
  by_cases h1 : 30 < m
  · have t1 : (30 : Int) < (m : Int) := by omega
    clear hbig h1
    go_enter Try.func3, Try.ntmps3
    go_wp2_with fail
    go_at_call 7
    refine (kA _).out.mono ?_
    rintro e w9 ⟨rfl, hb9⟩
    have B9 := hide1 hb9
    clear hb9
    go_wp2
    go_ret
    exact ⟨rfl, B9.out⟩
  · have t1 : ¬ (30 : Int) < (m : Int) := by omega
    have t2 : (200 : Int) < (N : Int) := by omega
    clear hbig h1
    go_enter Try.func3, Try.ntmps3
    go_wp2_with fail
    go_at_call 7
    refine (kA _).out.mono ?_
    rintro e w9 ⟨rfl, hb9⟩
    have B9 := hide1 hb9
    clear hb9
    go_wp2
    go_ret
    exact ⟨rfl, B9.out⟩

set_option maxHeartbeats 4000000 in
theorem sends_in (W n : Int) (m N c cx : Nat) (a ax : Option Addr) (f : Nat → List Nat) (xs : List Nat) (w : World) (hp : Pd w m a f) (hx : T.Nl w N ax xs) (hs : Ri.Small xs) (hcx : N ≤ cx) (hm : m ≤ 30) (hN : N ≤ 200) :
    Calls Try.prog 3 #[.int .i64 W, .int .i64 n, .slice a m c, .slice ax N cx] w fun e w' => e = .returned (.bool true) ∧ Below w.heap.size w w' := by
  have kA := fun w => hide1 (awake_any w)
  have kS := fun d g V (h1 : Pd V m g f) (h2 : T.Nl V N ax xs) => hide1 (send_any W n m N d cx g ax f xs V h1 h2 hs (by omega) (by omega) hcx)
  have kQ := fun V (h1 : Pd V m a f) (h2 : T.Nl V N ax xs) => hide1 (rsend_any W n m N c cx a ax f xs V h1 h2 hs (by omega) (by omega))
  have HP := hide1 hp
  have HX := hide1 hx
  have hl1 : (fixL W n m N f xs).length ≤ 200 := Nat.le_trans fixL_len hN
  have hl2 : (ownL W n m N f xs).length ≤ 200 := Nat.le_trans ownL_len hN
  unfold SPostC at kS
  unfold SPost at kQ
  generalize fixL W n m N f xs = L1 at *
  generalize ownL W n m N f xs = L2 at *
  generalize cod (ok W n m N xs) = q at *
  have HL := hide1 (And.intro hl1 hl2)
  have t1 : ¬ (30 : Int) < (m : Int) := by omega
  have t2 : ¬ (200 : Int) < (N : Int) := by omega
  clear hp hx hs hl1 hl2
  go_enter Try.func3, Try.ntmps3
  go_wp2_with fail
  go_at_call 9
  refine (pairs_any m c a f w HP.out (by omega)).mono ?_
  rintro e w1 ⟨g1, d1, rfl, hp1, hb1⟩
  have B1 := hide1 hb1
  have P1 := hide1 hp1
  clear hp1 hb1
  go_wp2_with fail
  go_at_call 8
  refine (kS _ _ w1 P1.out (HX.out.below B1.out (Nat.le_refl _))).out.mono ?_
  rintro e w2 ⟨a1, k1, c1, a2, k2, c2, rfl, r1, r2, hb, _⟩
  have B2 := hide1 (B1.out.trans (hb.mono B1.out.size))
  have R1 := hide1 r1
  have R2 := hide1 r2
  clear r1 r2 hb B1 P1 kS
  go_wp2_with fail
  go_at_call 10
  refine (kQ w2 (HP.out.below B2.out (Nat.le_refl _)) (HX.out.below B2.out (Nat.le_refl _))).out.mono ?_
  rintro e w3 ⟨a3, k3, c3, a4, k4, c4, rfl, r3, r4, hb⟩
  obtain rfl : k1 = k3 := by rw [← R1.out.len, ← r3.len]
  obtain rfl : k2 = k4 := by rw [← R2.out.len, ← r4.len]
  have h1 : k1 ≤ 200 := by rw [← R1.out.len]; exact HL.out.1
  have h2 : k2 ≤ 200 := by rw [← R2.out.len]; exact HL.out.2
  have B3 := hide1 (B2.out.trans (hb.mono B2.out.size))
  have R1 := hide1 (R1.out.below hb (Nat.le_refl _))
  have R2 := hide1 (R2.out.below hb (Nat.le_refl _))
  have R3 := hide1 r3
  have R4 := hide1 r4
  have qq : (q == q) = true := beq_self_eq_true q
  clear r3 r4 hb B2 kQ HP HX HL
  go_wp2_with fail
  go_at_call 11
  refine (T.nums_any w3 k1 c1 c3 a1 a3 L1 R1.out R3.out (by omega)).mono ?_
  rintro e w4 ⟨rfl, q4, hq⟩
  have hb : Below w3.heap.size w3 w4 := by rw [hq]; exact below_drewN' (Below.refl _ _) q4
  have B4 := hide1 (B3.out.trans (hb.mono B3.out.size))
  have R2 := hide1 (R2.out.below hb (Nat.le_refl _))
  have R4 := hide1 (R4.out.below hb (Nat.le_refl _))
  clear hq hb B3 R1 R3
  go_wp2_with fail
  go_at_call 11
  refine (T.nums_any w4 k2 c2 c4 a2 a4 L2 R2.out R4.out (by omega)).mono ?_
  rintro e w5 ⟨rfl, q5, hq⟩
  have hb : Below w4.heap.size w4 w5 := by rw [hq]; exact below_drewN' (Below.refl _ _) q5
  have B5 := hide1 (B4.out.trans (hb.mono B4.out.size))
  clear hq hb B4 R2 R4
  go_wp2_with fail
  go_at_call 7
  refine (kA _).out.mono ?_
  rintro e w6 ⟨rfl, hb6⟩
  have B6 := hide1 (B5.out.trans (hb6.mono B5.out.size))
  clear hb6
  go_wp2
  go_ret
  exact ⟨rfl, B6.out⟩

theorem sends_all (W n : Int) (m N c cx : Nat) (a ax : Option Addr) (f : Nat → List Nat) (xs : List Nat) (w : World) (hp : Pd w m a f) (hx : T.Nl w N ax xs) (hs : Ri.Small xs) (hcx : N ≤ cx) :
    Calls Try.prog 3 #[.int .i64 W, .int .i64 n, .slice a m c, .slice ax N cx] w fun e w' => e = .returned (.bool true) ∧ Below w.heap.size w w' := by
  by_cases h : 30 < m ∨ 200 < N
  · exact sends_else W n m N c cx a ax w h
  · exact sends_in W n m N c cx a ax f xs w hp hx hs hcx (by omega) (by omega)
end Go.Proofs.Ytdmodknjcdkocaa.Co

namespace Go.Proofs.Ytdmodknjcdkocaa.Co
open Go.RowKit Pg Ro
set_option maxRecDepth 100000
attribute [local go_sem] not_any T.mf_any

theorem gotL_len {W n : Int} {m M N : Nat} {s : Nat → List Nat} {ch : List Bool} {xs : List Nat} : (gotL W n m M N s ch xs).length ≤ N := by
  unfold gotL
  split
  · rw [tl_length]; exact Nat.le_refl _
  · exact Nat.zero_le _

theorem recs_else (W n : Int) (m M N c cc cx : Nat) (a ac ax : Option Addr) (w : World) (hbig : 30 < m ∨ 30 < M ∨ 200 < N) :
    Calls Try.prog 4 #[.int .i64 W, .int .i64 n, .slice a m c, .slice ac M cc, .slice ax N cx] w fun e w' => e = .returned (.bool true) ∧ Below w.heap.size w w' := by
  have kA := fun w => hide1 (awake_any w)
  by_cases h1 : 30 < m
  · have t1 : (30 : Int) < (m : Int) := by omega
    clear hbig h1
    go_enter Try.func4, Try.ntmps4
    go_wp2_with fail
    go_at_call 7
    refine (kA _).out.mono ?_
    rintro e w9 ⟨rfl, hb9⟩
    have B9 := hide1 hb9
    clear hb9
    go_wp2
    go_ret
    exact ⟨rfl, B9.out⟩
  · have t1 : ¬ (30 : Int) < (m : Int) := by omega
    by_cases h2 : 30 < M
    · have t2 : (30 : Int) < (M : Int) := by omega
      clear hbig h1 h2
      go_enter Try.func4, Try.ntmps4
      go_wp2_with fail
      go_at_call 7
      refine (kA _).out.mono ?_
      rintro e w9 ⟨rfl, hb9⟩
      have B9 := hide1 hb9
      clear hb9
      go_wp2
      go_ret
      exact ⟨rfl, B9.out⟩
    · have t2 : ¬ (30 : Int) < (M : Int) := by omega
      have t3 : (200 : Int) < (N : Int) := by omega
      clear hbig h1 h2
      go_enter Try.func4, Try.ntmps4
      go_wp2_with fail
      go_at_call 7
      refine (kA _).out.mono ?_
      rintro e w9 ⟨rfl, hb9⟩
      have B9 := hide1 hb9
      clear hb9
      go_wp2
      go_ret
      exact ⟨rfl, B9.out⟩

set_option maxHeartbeats 4000000 in
theorem recs_in (W n : Int) (m M N c cc cx : Nat) (a ac ax : Option Addr) (s : Nat → List Nat) (ch : List Bool) (xs : List Nat) (w : World) (hp : Sd w m a s) (hv : T.Bl w M ac ch) (hx : T.Nl w N ax xs) (hs : Ri.Small xs) (hcx : N ≤ cx) (hm : m ≤ 30) (hM : M ≤ 30) (hN : N ≤ 200) :
    Calls Try.prog 4 #[.int .i64 W, .int .i64 n, .slice a m c, .slice ac M cc, .slice ax N cx] w fun e w' => e = .returned (.bool true) ∧ Below w.heap.size w w' := by
  have kA := fun w => hide1 (awake_any w)
  have kR := fun av V (h1 : Sd V m a s) (h2 : T.Vc 0 V M av ch) (h3 : T.Nl V N ax xs) => hide1 (receive_any W n m M N c cx a av ax s ch xs V h1 h2 h3 hs (by omega) (by omega) (by omega) hcx)
  have kQ := fun V (h1 : Sd V m a s) (h2 : T.Bl V M ac ch) (h3 : T.Nl V N ax xs) => hide1 (rreceive_any W n m M N c cc cx a ac ax s ch xs V h1 h2 h3 hs (by omega) (by omega) (by omega))
  have kO := hide1 (T.of_any w M cc ac ch hv (by omega))
  have HP := hide1 hp
  have HX := hide1 hx
  have HV := hide1 hv
  have hl1 : (gotL W n m M N s ch xs).length ≤ 200 := Nat.le_trans gotL_len hN
  unfold RPost at kR kQ
  generalize gotL W n m M N s ch xs = L1 at *
  generalize cod (ok2 W n m M N xs) = q at *
  have HL := hide1 hl1
  have t1 : ¬ (30 : Int) < (m : Int) := by omega
  have t2 : ¬ (30 : Int) < (M : Int) := by omega
  have t3 : ¬ (200 : Int) < (N : Int) := by omega
  clear hp hx hs hl1 hv
  go_enter Try.func4, Try.ntmps4
  go_wp2_with fail
  go_at_call 12
  refine kO.out.mono ?_
  rintro e w1 ⟨av, rfl, hv, hb1⟩
  go_upto_region 4 with (fail)
  generalize hZ : World.alloc w1 _ = Z
  have zv : Z.heap[w1.heap.size]? = some (.cells #[.int .i64 (M : Int), .slice av (T.need M 64) (T.need M 64)] 37 (0, 0)) := by rw [← hZ]; exact heap_alloc_new _ _
  have zb : Below w1.heap.size w1 Z := by rw [← hZ]; exact (Below.refl _ _).alloc (Nat.le_refl _) _
  obtain ⟨gv, hgv⟩ : ∃ g, g = w1.heap.size := ⟨_, rfl⟩
  rw [← hgv] at zv
  rw [← hgv]
  have BZ := hide1 (hb1.trans (zb.mono hb1.size))
  have VC : Hid (T.Vc 0 Z M av ch) := (hv.below zb (Nat.le_refl _)).mono (Nat.zero_le _)
  obtain ⟨m0, m1, _⟩ := T.box2 zv
  clear hZ zv zb hgv hv hb1 kO
  go_wp2_with fail
  go_at_call 13
  refine (kR av Z (HP.out.below BZ.out (Nat.le_refl _)) VC.out (HX.out.below BZ.out (Nat.le_refl _))).out.mono ?_
  rintro e w2 ⟨a1, k1, c1, rfl, r1, hb⟩
  have B2 := hide1 (BZ.out.trans (hb.mono BZ.out.size))
  have R1 := hide1 r1
  clear r1 hb BZ VC kR m0 m1
  go_wp2_with fail
  go_at_call 14
  refine (kQ w2 (HP.out.below B2.out (Nat.le_refl _)) (HV.out.below B2.out (Nat.le_refl _)) (HX.out.below B2.out (Nat.le_refl _))).out.mono ?_
  rintro e w3 ⟨a3, k3, c3, rfl, r3, hb⟩
  obtain rfl : k1 = k3 := by rw [← R1.out.len, ← r3.len]
  have h1 : k1 ≤ 200 := by rw [← R1.out.len]; exact HL.out
  have B3 := hide1 (B2.out.trans (hb.mono B2.out.size))
  have R1 := hide1 (R1.out.below hb (Nat.le_refl _))
  have R3 := hide1 r3
  have qq : (q == q) = true := beq_self_eq_true q
  clear r3 hb B2 kQ HP HX HV HL
  go_wp2_with fail
  go_at_call 11
  refine (T.nums_any w3 k1 c1 c3 a1 a3 L1 R1.out R3.out (by omega)).mono ?_
  rintro e w4 ⟨rfl, q4, hq⟩
  have hb : Below w3.heap.size w3 w4 := by rw [hq]; exact below_drewN' (Below.refl _ _) q4
  have B4 := hide1 (B3.out.trans (hb.mono B3.out.size))
  clear hq hb B3 R1 R3
  go_wp2_with fail
  go_at_call 7
  refine (kA _).out.mono ?_
  rintro e w6 ⟨rfl, hb6⟩
  have B6 := hide1 (B4.out.trans (hb6.mono B4.out.size))
  clear hb6
  go_wp2
  go_ret
  exact ⟨rfl, B6.out⟩

theorem recs_all (W n : Int) (m M N c cc cx : Nat) (a ac ax : Option Addr) (s : Nat → List Nat) (ch : List Bool) (xs : List Nat) (w : World) (hp : Sd w m a s) (hv : T.Bl w M ac ch) (hx : T.Nl w N ax xs) (hs : Ri.Small xs) (hcx : N ≤ cx) :
    Calls Try.prog 4 #[.int .i64 W, .int .i64 n, .slice a m c, .slice ac M cc, .slice ax N cx] w fun e w' => e = .returned (.bool true) ∧ Below w.heap.size w w' := by
  by_cases h : 30 < m ∨ 30 < M ∨ 200 < N
  · exact recs_else W n m M N c cc cx a ac ax w h
  · exact recs_in W n m M N c cc cx a ac ax s ch xs w hp hv hx hs hcx (by omega) (by omega) (by omega)
end Go.Proofs.Ytdmodknjcdkocaa.Co
