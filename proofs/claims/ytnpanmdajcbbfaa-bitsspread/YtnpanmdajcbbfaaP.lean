/- The walk of BitsSpread. -/
import Derived.Test.YtnpanmdajcbbfaaO
namespace Go.Proofs.Ytnpanmdajcbbfaa
open Go.RowKit
set_option maxRecDepth 100000
attribute [local go_sem] not_any mf_any field_words

theorem spread_else (w : World) (n m k ca cb cc : Nat) (a b c : Option Addr) (h : 600 < n ∨ (n ≤ 600 ∧ m ≠ n) ∨ (n ≤ 600 ∧ m = n ∧ k ≠ n)) :
    Calls Try.prog 8 #[.slice a n ca, .slice b m cb, .slice c k cc] w fun e w' => e = .returned (.bool true) ∧ Below w.heap.size w w' := by
  have hA := fun w => hide1 (awake_any w)
  rcases h with h | ⟨h, h'⟩ | ⟨h, rfl, h'⟩
  · have h1 : (600 : Int) < (n : Int) := by omega
    go_enter Try.func8, Try.ntmps8
    go_wp2_with fail
    refine (hA _).out.mono ?_
    rintro e w1 ⟨rfl, hb⟩
    go_wp2
    go_ret
    exact ⟨rfl, hb⟩
  · have h1 : ¬ (600 : Int) < (n : Int) := by omega
    have h2 : ((m : Int) != (n : Int)) = true := by simp; omega
    go_enter Try.func8, Try.ntmps8
    go_wp2_with fail
    refine (hA _).out.mono ?_
    rintro e w1 ⟨rfl, hb⟩
    go_wp2
    go_ret
    exact ⟨rfl, hb⟩
  · have h1 : ¬ (600 : Int) < (m : Int) := by omega
    have h2 : ((m : Int) != (m : Int)) = false := by simp
    have h3 : ((k : Int) != (m : Int)) = true := by simp; omega
    go_enter Try.func8, Try.ntmps8
    go_wp2_with fail
    refine (hA _).out.mono ?_
    rintro e w1 ⟨rfl, hb⟩
    go_wp2
    go_ret
    exact ⟨rfl, hb⟩

set_option maxHeartbeats 4000000 in
theorem spread_any (w : World) (n ca cb cc : Nat) (a b c : Option Addr) (la lb lc : List Bool) (hla : Bl w n a la) (hlb : Bl w n b lb) (hlc : Bl w n c lc) (hn : n ≤ 600) :
    Calls Try.prog 8 #[.slice a n ca, .slice b n cb, .slice c n cc] w fun e w' => e = .returned (.bool true) ∧ Below w.heap.size w w' := by
  have hA := fun w => hide1 (awake_any w)
  have hOf := fun w (a : Option Addr) cap l h => hide1 (of_any w n cap a l h (by omega))
  have hXo := fun w (a b : Option Addr) la lb h1 h2 => hide1 (xor_any w n 0 0 a b la lb h1 h2 (by omega))
  have hAn := fun w (a b : Option Addr) la lb h1 h2 => hide1 (and_any w n 0 0 a b la lb h1 h2 (by omega))
  have HA := hide1 hla
  have HB := hide1 hlb
  have HC := hide1 hlc
  have mixed := mixed
  have h1 : ¬ (600 : Int) < (n : Int) := by omega
  have h2 : ((n : Int) != (n : Int)) = false := by simp
  clear hla hlb hlc
  go_enter Try.func8, Try.ntmps8
  go_wp2_with fail
  refine (hOf _ _ _ _ HA.out).out.mono ?_
  rintro e w1 ⟨ax, rfl, hv, hb⟩
  have S1 := hide1 (Als.put (ts := []) ⟨by simp, hb⟩ hv)
  clear hv hb
  go_wp2_with fail
  refine (hOf _ _ _ _ (HB.out.below S1.out.bl (Nat.le_refl _))).out.mono ?_
  rintro e w2 ⟨ay, rfl, hv, hb⟩
  have S2 := hide1 ((S1.out.next hb).put hv)
  clear hv hb S1
  go_wp2_with fail
  refine (hOf _ _ _ _ (HC.out.below S2.out.bl (Nat.le_refl _))).out.mono ?_
  rintro e w3 ⟨az, rfl, hv, hb⟩
  have S3 := hide1 ((S2.out.next hb).put hv)
  clear hv hb S2
  obtain ⟨c0, c1, c2⟩ := S3.out.box (t := w1.heap.size) (a := ax) (l := la) (by simp)
  obtain ⟨d0, d1, d2⟩ := S3.out.box (t := w2.heap.size) (a := ay) (l := lb) (by simp)
  go_wp2_with fail
  refine (hXo _ _ _ la lb (S3.out.vc (t := w1.heap.size) (by simp)) (S3.out.vc (t := w2.heap.size) (by simp))).out.mono ?_
  rintro e w4 ⟨ap, rfl, hv, hb⟩
  have S4 := hide1 ((S3.out.next hb).put hv)
  clear hv hb S3 c0 c1 c2 d0 d1 d2
  obtain ⟨c0, c1, c2⟩ := S4.out.box (t := w4.heap.size) (a := ap) (l := (List.zipWith (fun x y => x ^^ y) la lb)) (by simp)
  obtain ⟨d0, d1, d2⟩ := S4.out.box (t := w2.heap.size) (a := ay) (l := lb) (by simp)
  go_wp2_with fail
  refine (hXo _ _ _ (List.zipWith (fun x y => x ^^ y) la lb) lb (S4.out.vc (t := w4.heap.size) (by simp)) (S4.out.vc (t := w2.heap.size) (by simp))).out.mono ?_
  rintro e w5 ⟨aq, rfl, hv, hb⟩
  have S5 := hide1 ((S4.out.next hb).put hv)
  clear hv hb S4 c0 c1 c2 d0 d1 d2
  obtain ⟨c0, c1, c2⟩ := S5.out.box (t := w4.heap.size) (a := ap) (l := (List.zipWith (fun x y => x ^^ y) la lb)) (by simp)
  obtain ⟨d0, d1, d2⟩ := S5.out.box (t := w3.heap.size) (a := az) (l := lc) (by simp)
  go_wp2_with fail
  refine (hAn _ _ _ (List.zipWith (fun x y => x ^^ y) la lb) lc (S5.out.vc (t := w4.heap.size) (by simp)) (S5.out.vc (t := w3.heap.size) (by simp))).out.mono ?_
  rintro e w6 ⟨al, rfl, hv, hb⟩
  have S6 := hide1 ((S5.out.next hb).put hv)
  clear hv hb S5 c0 c1 c2 d0 d1 d2
  obtain ⟨c0, c1, c2⟩ := S6.out.box (t := w1.heap.size) (a := ax) (l := la) (by simp)
  obtain ⟨d0, d1, d2⟩ := S6.out.box (t := w3.heap.size) (a := az) (l := lc) (by simp)
  go_wp2_with fail
  refine (hAn _ _ _ la lc (S6.out.vc (t := w1.heap.size) (by simp)) (S6.out.vc (t := w3.heap.size) (by simp))).out.mono ?_
  rintro e w7 ⟨am, rfl, hv, hb⟩
  have S7 := hide1 ((S6.out.next hb).put hv)
  clear hv hb S6 c0 c1 c2 d0 d1 d2
  obtain ⟨c0, c1, c2⟩ := S7.out.box (t := w2.heap.size) (a := ay) (l := lb) (by simp)
  obtain ⟨d0, d1, d2⟩ := S7.out.box (t := w3.heap.size) (a := az) (l := lc) (by simp)
  go_wp2_with fail
  refine (hAn _ _ _ lb lc (S7.out.vc (t := w2.heap.size) (by simp)) (S7.out.vc (t := w3.heap.size) (by simp))).out.mono ?_
  rintro e w8 ⟨an, rfl, hv, hb⟩
  have S8 := hide1 ((S7.out.next hb).put hv)
  clear hv hb S7 c0 c1 c2 d0 d1 d2
  obtain ⟨c0, c1, c2⟩ := S8.out.box (t := w7.heap.size) (a := am) (l := (List.zipWith (fun x y => x && y) la lc)) (by simp)
  obtain ⟨d0, d1, d2⟩ := S8.out.box (t := w8.heap.size) (a := an) (l := (List.zipWith (fun x y => x && y) lb lc)) (by simp)
  go_wp2_with fail
  refine (hXo _ _ _ (List.zipWith (fun x y => x && y) la lc) (List.zipWith (fun x y => x && y) lb lc) (S8.out.vc (t := w7.heap.size) (by simp)) (S8.out.vc (t := w8.heap.size) (by simp))).out.mono ?_
  rintro e w9 ⟨ao, rfl, hv, hb⟩
  have S9 := hide1 ((S8.out.next hb).put hv)
  clear hv hb S8 c0 c1 c2 d0 d1 d2
  have e1 := xor_twice la lb (by rw [HA.out.len, HB.out.len])
  have e2 := and_spread la lb lc (by rw [HA.out.len, HB.out.len]) (by rw [HA.out.len, HC.out.len])
  have e3 := odd_xor la lb (by rw [HA.out.len, HB.out.len])
  obtain ⟨W, hW⟩ : ∃ W, w9.alloc (.cells #[.int .i64 (n : Int), .slice ao (need n 64) (need n 64)] 26) = W := ⟨_, rfl⟩
  rw [hW] at S9
  have hE1 : ∀ p : Bw W, Hid (Calls Try.prog 23 #[.agg #[.int .i64 (n : Int), .slice aq (need n 64) (need n 64)], .agg #[.int .i64 (n : Int), .slice ax (need n 64) (need n 64)]] p.w fun e w' => e = .returned (.bool true) ∧ Below p.w.heap.size p.w w') := fun p => by
    have h := equal_any p.w n n 0 0 aq ax _ _ ((S9.out.next p.h).vc (t := w5.heap.size) (a := aq) (l := (List.zipWith (fun x y => x ^^ y) (List.zipWith (fun x y => x ^^ y) la lb) lb)) (by simp)) ((S9.out.next p.h).vc (t := w1.heap.size) (a := ax) (l := la) (by simp)) (by omega)
    rw [e1] at h
    exact hide1 (by simpa using h)
  have hE2 : ∀ p : Bw W, Hid (Calls Try.prog 23 #[.agg #[.int .i64 (n : Int), .slice al (need n 64) (need n 64)], .agg #[.int .i64 (n : Int), .slice ao (need n 64) (need n 64)]] p.w fun e w' => e = .returned (.bool true) ∧ Below p.w.heap.size p.w w') := fun p => by
    have h := equal_any p.w n n 0 0 al ao _ _ ((S9.out.next p.h).vc (t := w6.heap.size) (a := al) (l := (List.zipWith (fun x y => x && y) (List.zipWith (fun x y => x ^^ y) la lb) lc)) (by simp)) ((S9.out.next p.h).vc (t := w9.heap.size) (a := ao) (l := (List.zipWith (fun x y => x ^^ y) (List.zipWith (fun x y => x && y) la lc) (List.zipWith (fun x y => x && y) lb lc))) (by simp)) (by omega)
    rw [e2] at h
    exact hide1 (by simpa using h)
  have hLe : ∀ p : Bw W, Hid (Calls Try.prog 14 #[.agg #[.int .i64 (n : Int), .slice al (need n 64) (need n 64)]] p.w fun e w' => e = .returned (.int .i64 (n : Int)) ∧ Below p.w.heap.size p.w w') := fun p => by
    refine (len_any n (.slice al (need n 64) (need n 64)) p.w rfl).mono ?_
    rintro e w' ⟨rfl, rfl⟩
    exact ⟨rfl, below_alloc1 _ _⟩
  have hO : ∀ (p : Bw W) (a : Option Addr) (l : List Bool), Vc 0 p.w n a l → Hid (Calls Try.prog 19 #[.agg #[.int .i64 (n : Int), .slice a (need n 64) (need n 64)]] p.w fun e w' => e = .returned (.bool (decide (l.count true % 2 = 1))) ∧ Below p.w.heap.size p.w w') := fun p a l hv => by
    refine (odd_any 0 p.w n a l hv (by omega)).mono ?_
    rintro e w' ⟨rfl, hq⟩
    exact ⟨rfl, gr_below hq⟩
  have hO1 := fun p : Bw W => hO p ax la ((S9.out.next p.h).vc (t := w1.heap.size) (a := ax) (l := la) (by simp))
  have hO2 := fun p : Bw W => hO p ay lb ((S9.out.next p.h).vc (t := w2.heap.size) (a := ay) (l := lb) (by simp))
  have hO3 := fun p : Bw W => hO p ap _ ((S9.out.next p.h).vc (t := w4.heap.size) (a := ap) (l := (List.zipWith (fun x y => x ^^ y) la lb)) (by simp))
  rw [e3] at hO3
  have hAw := fun p : Bw W => hA p.w
  have hne : Nonempty (Bw W) := ⟨⟨W, Below.refl _ _⟩⟩
  obtain ⟨q0, q1, _⟩ := S9.out.box (t := w5.heap.size) (a := aq) (l := (List.zipWith (fun x y => x ^^ y) (List.zipWith (fun x y => x ^^ y) la lb) lb)) (by simp)
  have q0 := bw_cell q0
  have q1 := bw_cell q1
  obtain ⟨x0, x1, _⟩ := S9.out.box (t := w1.heap.size) (a := ax) (l := la) (by simp)
  have x0 := bw_cell x0
  have x1 := bw_cell x1
  obtain ⟨l0, l1, _⟩ := S9.out.box (t := w6.heap.size) (a := al) (l := (List.zipWith (fun x y => x && y) (List.zipWith (fun x y => x ^^ y) la lb) lc)) (by simp)
  have l0 := bw_cell l0
  have l1 := bw_cell l1
  obtain ⟨o0, o1, _⟩ := S9.out.box (t := w9.heap.size) (a := ao) (l := (List.zipWith (fun x y => x ^^ y) (List.zipWith (fun x y => x && y) la lc) (List.zipWith (fun x y => x && y) lb lc))) (by simp)
  have o0 := bw_cell o0
  have o1 := bw_cell o1
  obtain ⟨p0, p1, _⟩ := S9.out.box (t := w4.heap.size) (a := ap) (l := (List.zipWith (fun x y => x ^^ y) la lb)) (by simp)
  have p0 := bw_cell p0
  have p1 := bw_cell p1
  obtain ⟨y0, y1, _⟩ := S9.out.box (t := w2.heap.size) (a := ay) (l := lb) (by simp)
  have y0 := bw_cell y0
  have y1 := bw_cell y1
  generalize decide (la.count true % 2 = 1) = ox at hO1 hO3
  generalize decide (lb.count true % 2 = 1) = oy at hO2 hO3
  have HS := hide1 S9.out.bl
  have HWW := hide1 hW
  have h3 : ((n : Int) == (n : Int)) = true := by simp
  clear hW S9 e1 e2 e3 hO hA hOf hXo hAn
  go_wp2_with fail
  rw [HWW.out]
  cases ox <;> cases oy
  all_goals
    refine wp_region_quiet_bw (by assumption) (by kernel_rfl) ?_
    repeat (go_big_quiet_step (first | (go_at_call_of 23 aq; exact bw_of (hE1 _).out) | (go_at_call_of 23 al; exact bw_of (hE2 _).out) | (go_at_call 14; exact bw_of (hLe _).out) | (go_at_call_of 19 ax; exact bw_of (hO1 _).out) | (go_at_call_of 19 ay; exact bw_of (hO2 _).out) | (go_at_call_of 19 ap; exact bw_of (hO3 _).out) | (go_at_call 9; exact bw_of (hAw _).out)))
    refine wpQuiet_nil ?_
    intro w1 hw1
    obtain ⟨p, rfl⟩ := hw1
    go_wp2
    go_ret
    exact ⟨rfl, HS.out.trans (p.h.mono HS.out.size)⟩

end Go.Proofs.Ytnpanmdajcbbfaa
