/- The walk of RotNumbers. -/
import Derived.Test.YtlkkninnfiaedaaDoorJ45
import Derived.Test.YtlkkninnfiaedaaDoorJ47
import Derived.Test.YtlkkninnfiaedaaDoorJ42
namespace Go.Proofs.YtlkkninnfiaedaaDoor.Ro
open Go.RowKit Pg
set_option maxRecDepth 100000
attribute [local go_sem] not_any T.mf_any

theorem nums_else (n c : Nat) (a : Option Addr) (W N : Int) (w : World) (hL : Sh.Laid w) (hbig : 20 < n) :
    Calls Tryd.prog 4 #[.slice a n c, .int .i64 W, .int .i64 N] w fun e w' => e = .returned (.bool true) ∧ Below w.heap.size w w' := by
  have kA := hide1 (awake_any w hL)
  have t1 : (20 : Int) < (n : Int) := by omega
  clear hbig hL
  go_enter Tryd.func4, Tryd.ntmps4
  go_wp2_with fail
  go_at_call 7
  refine kA.out.mono ?_
  rintro e w9 ⟨rfl, hb9⟩
  have B9 := hide1 hb9
  clear hb9
  go_wp2
  go_ret
  exact ⟨rfl, B9.out⟩

set_option maxHeartbeats 8000000 in
theorem nums_in (n c : Nat) (a : Option Addr) (f : Nat → List Nat) (W N : Int) (w : World) (hL : Sh.Laid w) (hs : Sd w n a f) (hn : n ≤ 20) :
    Calls Tryd.prog 4 #[.slice a n c, .int .i64 W, .int .i64 N] w fun e w' => e = .returned (.bool true) ∧ Below w.heap.size w w' := by
  have kA : Hid (∀ W, Below w.heap.size w W → Calls Tryd.prog 7 #[] W fun e w' => e = .returned (.bool true) ∧ Below W.heap.size W w') := fun W hW => awake_any W (hL.below hW hL.two)
  have kC := hide1 (coins_any n c a f w hs (by omega))
  have HS := hide1 hs
  have HG := hide1 hs.good
  have kN : Hid (∀ k V, Calls Tryd.prog 18 #[.agg (u8s (f k)).toArray, .int .i64 W, .int .i64 N] V (NPost V (numL (f k) W N) (numC W N))) := fun k V => numbers_any (f k) W N V (hs.good k).1 (hs.good k).2
  have kR : Hid (∀ k V, Calls Tryd.prog 19 #[.agg (u8s (f k)).toArray, .int .i64 W, .int .i64 N] V (NPost V (numL (f k) W N) (numC W N))) := fun k V => rnumbers_any (f k) W N V (hs.good k).1 (hs.good k).2
  have HC : Shy (∀ k, k < n → T.getI (coins f n) (k : Int) = (at0 (f k) 0 % 2 == 1)) := ⟨fun k hk => by rw [T.getI_nat, List.getD_eq_getElem?_getD, coins_get hk]; rfl⟩
  have hin := hn
  generalize coins f n = L at *
  generalize numC W N = cc at *
  have t1 : ¬ (20 : Int) < (n : Int) := by omega
  clear hL hs
  go_enter Tryd.func4, Tryd.ntmps4
  go_wp2_with fail
  go_at_call 16
  refine kC.out.mono ?_
  rintro e w1 ⟨av, rfl, hv, hb1⟩
  have kL := fun w => hide1 (T.len_any (n : Int) (.slice av (T.need n 64) (T.need n 64)) w rfl)
  have HV := hide1 hv
  have HB1 := hide1 hb1
  clear hv hb1 kC
  go_upto_region 4 with (fail)
  generalize hX : World.alloc w1 _ = X
  have x0 : X.heap[w1.heap.size]? = some (.cells #[.int .i64 (n : Int), .slice av (T.need n 64) (T.need n 64)] 41 (0, 0)) := by rw [← hX]; exact heap_alloc_new _ _
  have xb : Below w1.heap.size w1 X := by rw [← hX]; exact (Below.refl _ _).alloc (Nat.le_refl _) _
  obtain ⟨gv, hgv⟩ : ∃ g, g = w1.heap.size := ⟨_, rfl⟩
  rw [← hgv] at x0 ⊢
  have XV : Hid (T.Vc 0 X n av L) := HV.out.below xb (Nat.le_refl _)
  have X0 := hide1 x0
  have XB := hide1 (HB1.out.trans (xb.mono HB1.out.size))
  clear hX xb hgv HV HB1
  obtain ⟨q1, q2, q3, q4, q5⟩ := T.box2 x0
  clear x0
  go_wp2_with (first | (go_at_call 17; refine (kL _).out.mono ?_; rintro e w2 ⟨rfl, rfl⟩))
  generalize hY : World.alloc X _ = Y
  have yb : Below X.heap.size X Y := by rw [← hY]; exact (Below.refl _ _).alloc (Nat.le_refl _) _
  have YB := hide1 yb
  clear hY yb q1 q2 q3 q4 q5
  go_loopw [9] (fun v wr => ∃ k : Nat, k ≤ n ∧ v = .int .i64 k ∧ Below X.heap.size X wr) (fun v _ => n - (intOf v).toNat)
  case atStart => exact ⟨0, Nat.zero_le _, rfl, YB.out⟩
  case round =>
    obtain ⟨k, hk, rfl, hbe⟩ := hrel
    by_cases hlt : k < n
    · have bk : (k : Int) < (n : Int) := by omega
      have bk2 : (k : Int) < 20 := by omega
      obtain ⟨ga, oa, rfl, hga, ra⟩ := HS.out.at0 hlt
      have RA := hide1 (fun V (h : Below X.heap.size X V) => ra V (XB.out.trans (h.mono XB.out.size)) k hlt)
      have hsl := (HG.out k).1
      have kn := fun V => hide1 (kN.out k V)
      have kr := fun V => hide1 (kR.out k V)
      have hc := HC.out k hlt
      have hi' := hi23' hsl
      obtain ⟨s, hs⟩ : ∃ s, s = f k := ⟨_, rfl⟩
      rw [← hs] at RA hsl kn kr hc hi'
      have hx := (HG.out k).2.at (by omega : 0 < 256) 0
      rw [← hs] at hx
      have HS0 : Shy ((u8s s)[0]? = some (.int .u8 (at0 s 0 : Nat))) := ⟨by rw [u8s, List.getElem?_map, get_at0 (by omega)]; rfl⟩
      generalize numL s W N = ws at *
      obtain ⟨ja, hja⟩ : ∃ j, j = oa + k * 32 := ⟨_, rfl⟩
      rw [← hja] at RA
      have eja : oa + k * 32 = ja := hja.symm
      have HE := hide1 hbe
      have hra := RA.out wr hbe
      clear hbe ra hs hja hga
      go_wp2_with (first
        | (refine wpList_load_mid rfl 28 (.tmp 41) rfl ga ja rfl (u8s s) _ hra Tryd.underlying28 rfl hi' ?_)
        | fail)
      go_at_call 18
      refine (kn _).out.mono ?_
      rintro e w2 ⟨a1, m1, c1, rfl, hn1, hm1, hb2⟩
      have HN1 := hide1 hn1
      have HB2 := hide1 (HE.out.trans (hb2.mono HE.out.size))
      have hra := RA.out w2 HB2.out
      clear hn1 hb2 HE
      go_wp2_with (first
        | (refine wpList_load_mid rfl 28 (.tmp 51) rfl ga ja rfl (u8s s) _ hra Tryd.underlying28 rfl hi' ?_)
        | fail)
      go_at_call 19
      refine (kr _).out.mono ?_
      rintro e w3 ⟨a2, m2, c2, rfl, hn2, hm2, hb3⟩
      have hmm : m2 = m1 := by have h1 := HN1.out.len; have h2 := hn2.len; omega
      subst hmm
      have HN2 := hide1 hn2
      have HN1b : Hid (T.Nl w3 m2 a1 ws) := HN1.out.below hb3 (Nat.le_refl _)
      have HB3 := hide1 (HB2.out.trans (hb3.mono HB2.out.size))
      have kq : Hid (∀ V, Below w3.heap.size w3 V → Calls Tryd.prog 20 #[.slice a1 m2 c1, .slice a2 m2 c2] V fun e w' => e = .returned (.bool true) ∧ ∃ q, w' = V.drewN q) := fun V hV => T.nums_any V m2 c1 c2 a1 a2 ws (HN1b.out.below hV (Nat.le_refl _)) (HN2.out.below hV (Nat.le_refl _)) (by omega)
      have kG : Hid (∀ V, Below X.heap.size X V → Calls Tryd.prog 21 #[.agg #[.int .i64 (n : Int), .slice av (T.need n 64) (T.need n 64)], .int .i64 (k : Int)] V fun e w' => e = .returned (.bool (T.getI L (k : Int))) ∧ ∃ q os, w' = Sort.grow (V.drewN q) os) := fun V hV => T.get_any 0 V n av L (k : Int) (XV.out.below hV (Nat.le_refl _)) (by omega)
      rw [hc] at kG
      have CV : Hid (∀ V, Below X.heap.size X V → V.cell? ⟨gv, 0, none⟩ = some (.int .i64 (n : Int)) ∧ V.cell? ⟨gv, 1, none⟩ = some (.slice av (T.need n 64) (T.need n 64))) := fun V hV => by
        have h := T.box2 ((hV.block _ (lt_heap X0.out)).trans X0.out)
        exact ⟨h.1, h.2.1⟩
      have CS : Hid (∀ V, Below X.heap.size X V → V.cell? ⟨ga, ja, none⟩ = some (.int .u8 (at0 s 0 : Nat))) := fun V hV => by
        have := RA.out V hV 0 _ HS0.out
        rwa [Nat.add_zero] at this
      generalize at0 s 0 = x at *
      obtain ⟨y, hy⟩ : ∃ y, y = x % 2 := ⟨_, rfl⟩
      have ey : Int.tmod (x : Int) 2 = (y : Int) := by rw [Int.tmod_eq_emod_of_nonneg (by omega)]; omega
      obtain ⟨b, hb⟩ : ∃ b, b = (x % 2 == 1) := ⟨_, rfl⟩
      rw [← hb] at kG
      have eb : ((y : Int) == 1) = b := by rw [hb, hy, Bool.eq_iff_iff, beq_iff_eq, beq_iff_eq]; omega
      have ebb : (b != b) = false := bne_self_eq_false b
      clear hn2 hb3 HN1 HB2 hy hb hc kn kr hra HS0
      go_upto_region 11 with (fail)
      refine region_f (F := []) (S := fun V => Below X.heap.size X V ∧ Below w3.heap.size w3 V) (by kernel_rfl) ⟨HB3.out.drew, (Below.refl _ _).drew⟩ (fun hS => ?_)
      refine take_p 0 58 (.slice a1 m2 c1) rfl rfl (by kernel_rfl) (by kernel_rfl) (by kernel_rfl) (fun _ _ _ h => h) rfl (fun w => by go_simp) ?_
      try simp only [List.setIfInBounds_toArray, List.set_cons_zero, List.set_cons_succ]
      refine take_p 1 59 (.slice a2 m2 c2) rfl rfl (by kernel_rfl) (by kernel_rfl) (by kernel_rfl) (fun _ _ _ h => h) rfl (fun w => by go_simp) ?_
      try simp only [List.setIfInBounds_toArray, List.set_cons_zero, List.set_cons_succ]
      refine ready_f 2 (o := { dst := some 60, op := Op.call { callee := Callee.value (Operand.func 20), args := #[Operand.tmp 58, Operand.tmp 59], argTypes := #[39, 39] }, type := 4, pos := "law.go:81", after := #[{ on := 0, ground := Ground.data }, { on := 1, ground := Ground.data }], guard := none }) (by kernel_rfl) rfl (fun K hK => ?_)
      go_simp
      refine (kq.out _ hS.2).mono ?_
      rintro e w5 ⟨rfl, q5, hq5⟩
      have hd5 : Below w3.heap.size w3 w5 := by rw [hq5]; exact below_drewN' hS.2 q5
      have hS5 : Below X.heap.size X w5 := HB3.out.trans (hd5.mono HB3.out.size)
      refine hK.out _ _ (fun _ _ => ⟨hS5, hd5⟩) ?_
      clear hq5
      clear hK K
      try simp only [Act.put, List.setIfInBounds_toArray, List.set_cons_zero, List.set_cons_succ]
      have hS' := hS
      clear hS
      have hS := And.intro hS5 hd5
      refine take_p 3 61 (.bool false) rfl rfl (by kernel_rfl) (by kernel_rfl) (by kernel_rfl) (fun _ _ _ h => h) rfl (fun w => by go_simp) ?_
      try simp only [List.setIfInBounds_toArray, List.set_cons_zero, List.set_cons_succ]
      refine take_p 4 62 (.bool false) rfl rfl (by kernel_rfl) (by kernel_rfl) (by kernel_rfl) (fun _ _ _ h => h) rfl (fun w => by go_simp) ?_
      try simp only [List.setIfInBounds_toArray, List.set_cons_zero, List.set_cons_succ]
      refine take_p 5 63 (.int .i64 cc) rfl rfl (by kernel_rfl) (by kernel_rfl) (by kernel_rfl) (fun _ _ _ h => h) rfl (fun w => by go_simp) ?_
      try simp only [List.setIfInBounds_toArray, List.set_cons_zero, List.set_cons_succ]
      refine take_p 6 64 (.int .i64 cc) rfl rfl (by kernel_rfl) (by kernel_rfl) (by kernel_rfl) (fun _ _ _ h => h) rfl (fun w => by go_simp) ?_
      try simp only [List.setIfInBounds_toArray, List.set_cons_zero, List.set_cons_succ]
      refine take_p 7 65 (.bool false) rfl rfl (by kernel_rfl) (by kernel_rfl) (by kernel_rfl) (fun _ _ _ h => h) rfl (fun w => by go_simp) ?_
      try simp only [List.setIfInBounds_toArray, List.set_cons_zero, List.set_cons_succ]
      refine take_p 8 66 (.bool false) rfl rfl (by kernel_rfl) (by kernel_rfl) (by kernel_rfl) (fun _ _ _ h => h) rfl (fun w => by go_simp) ?_
      try simp only [List.setIfInBounds_toArray, List.set_cons_zero, List.set_cons_succ]
      refine take_p 9 67 (.bool false) rfl rfl (by kernel_rfl) (by kernel_rfl) (by kernel_rfl) (fun _ _ _ h => h) rfl (fun w => by go_simp) ?_
      try simp only [List.setIfInBounds_toArray, List.set_cons_zero, List.set_cons_succ]
      refine take_f 10 68 (.agg #[.int .i64 (n : Int), .slice av (T.need n 64) (T.need n 64)]) [12, 20, 21] rfl rfl (by kernel_rfl) (by kernel_rfl) (by kernel_rfl) (by kernel_rfl) (by kernel_rfl) (by kernel_rfl) (fun _ _ _ h => h) rfl (fun w hSw => by have h1 := (CV.out w hSw.1).1; have h2 := (CV.out w hSw.1).2; go_simp) hS ?_
      try simp only [List.setIfInBounds_toArray, List.set_cons_zero, List.set_cons_succ]
      refine take_p 11 69 (.int .i64 (k : Int)) rfl rfl (by kernel_rfl) (by kernel_rfl) (by kernel_rfl) (fun _ _ _ h => h) rfl (fun w => by go_simp) ?_
      try simp only [List.setIfInBounds_toArray, List.set_cons_zero, List.set_cons_succ]
      refine take_p 13 71 (.slice (some ⟨ga, oa, none⟩) n c) rfl rfl (by kernel_rfl) (by kernel_rfl) (by kernel_rfl) (fun _ _ _ h => h) rfl (fun w => by go_simp) ?_
      try simp only [List.setIfInBounds_toArray, List.set_cons_zero, List.set_cons_succ]
      refine take_p 14 72 (.int .i64 (k : Int)) rfl rfl (by kernel_rfl) (by kernel_rfl) (by kernel_rfl) (fun _ _ _ h => h) rfl (fun w => by go_simp) ?_
      try simp only [List.setIfInBounds_toArray, List.set_cons_zero, List.set_cons_succ]
      refine take_p 15 73 (.pointer (some ⟨ga, ja, none⟩)) rfl rfl (by kernel_rfl) (by kernel_rfl) (by kernel_rfl) (fun _ _ _ h => h) rfl (fun w => by go_simp) ?_
      try simp only [List.setIfInBounds_toArray, List.set_cons_zero, List.set_cons_succ]
      refine take_p 16 74 (.pointer (some ⟨ga, ja, none⟩)) rfl rfl (by kernel_rfl) (by kernel_rfl) (by kernel_rfl) (fun _ _ _ h => h) rfl (fun w => by go_simp) ?_
      try simp only [List.setIfInBounds_toArray, List.set_cons_zero, List.set_cons_succ]
      refine take_f 17 75 (.int .u8 (x : Int)) [18, 19, 20, 21] rfl rfl (by kernel_rfl) (by kernel_rfl) (by kernel_rfl) (by kernel_rfl) (by kernel_rfl) (by kernel_rfl) (fun _ _ _ h => h) rfl (fun w hSw => by have h1 := CS.out w hSw.1; go_simp) hS ?_
      try simp only [List.setIfInBounds_toArray, List.set_cons_zero, List.set_cons_succ]
      refine take_p 18 76 (.int .u8 (y : Int)) rfl rfl (by kernel_rfl) (by kernel_rfl) (by kernel_rfl) (fun _ _ _ h => h) rfl (fun w => by go_simp) ?_
      try simp only [List.setIfInBounds_toArray, List.set_cons_zero, List.set_cons_succ]
      refine take_p 19 77 (.bool b) rfl rfl (by kernel_rfl) (by kernel_rfl) (by kernel_rfl) (fun _ _ _ h => h) rfl (fun w => by go_simp) ?_
      try simp only [List.setIfInBounds_toArray, List.set_cons_zero, List.set_cons_succ]
      refine ready_f 12 (o := { dst := some 70, op := Op.call { callee := Callee.value (Operand.func 21), args := #[Operand.tmp 68, Operand.tmp 69], argTypes := #[41, 3] }, type := 4, pos := "law.go:81", after := #[{ on := 10, ground := Ground.data }, { on := 11, ground := Ground.data }, { on := 9, ground := Ground.chain }, { on := 9, ground := Ground.guard }], guard := some (9, false) }) (by kernel_rfl) rfl (fun K hK => ?_)
      go_simp
      refine (kG.out _ hS.1).mono ?_
      rintro e w9 ⟨rfl, hg9⟩
      have hS9 : Below X.heap.size X w9 := hS.1.trans ((T.gr_below hg9).mono hS.1.size)
      have hd9 : Below w3.heap.size w3 w9 := hS.2.trans ((T.gr_below hg9).mono hS.2.size)
      refine hK.out _ _ (fun _ _ => ⟨hS9, hd9⟩) ?_
      clear hg9 hd9
      clear hK K
      try simp only [Act.put, List.setIfInBounds_toArray, List.set_cons_zero, List.set_cons_succ]
      refine take_p 20 78 (.bool false) rfl rfl (by kernel_rfl) (by kernel_rfl) (by kernel_rfl) (fun _ _ _ h => h) rfl (fun w => by go_simp) ?_
      try simp only [List.setIfInBounds_toArray, List.set_cons_zero, List.set_cons_succ]
      refine take_p 21 79 (.bool false) rfl rfl (by kernel_rfl) (by kernel_rfl) (by kernel_rfl) (fun _ _ _ h => h) rfl (fun w => by go_simp) ?_
      try simp only [List.setIfInBounds_toArray, List.set_cons_zero, List.set_cons_succ]
      refine done_f (by kernel_rfl) ?_ _
      have HS9 := hide1 hS9
      clear hS9 ey eb ebb
      go_wp2
      go_roundw
      case rel => exact ⟨k + 1, by omega, by go_num, HS9.out⟩
      case measure => simp [intOf]; omega
    · obtain rfl : k = n := by omega
      have HE := hide1 (XB.out.trans (hbe.mono XB.out.size))
      clear hbe
      go_wp2_with fail
      go_at_call 7
      refine (kA.out _ HE.out).mono ?_
      rintro e w9 ⟨rfl, hb9⟩
      have B9 := hide1 (HE.out.trans (hb9.mono HE.out.size))
      clear hb9
      go_wp2
      go_ret
      exact ⟨rfl, B9.out⟩

theorem nums_all (n c : Nat) (a : Option Addr) (f : Nat → List Nat) (W N : Int) (w : World) (hL : Sh.Laid w) (hs : Sd w n a f) :
    Calls Tryd.prog 4 #[.slice a n c, .int .i64 W, .int .i64 N] w fun e w' => e = .returned (.bool true) ∧ Below w.heap.size w w' := by
  by_cases h : 20 < n
  · exact nums_else n c a W N w hL h
  · exact nums_in n c a f W N w hL hs (by omega)
end Go.Proofs.YtlkkninnfiaedaaDoor.Ro
