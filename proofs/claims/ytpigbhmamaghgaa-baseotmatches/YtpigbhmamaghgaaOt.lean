/- BaseotMatches. -/
import Derived.Test.YtpigbhmamaghgaaOs
namespace Go.Proofs.Ytpigbhmamaghgaa
open Go.RowKit Pg
set_option maxRecDepth 100000
attribute [local go_sem] not_any

theorem setL_get : ∀ (vs L : List Value) (o x : Nat), (setL L o vs)[x]? = if o ≤ x ∧ x < o + vs.length ∧ x < L.length then vs[x - o]? else L[x]?
  | [], L, o, x => by rw [if_neg (by simp; omega)]; rfl
  | v :: r, L, o, x => by
    rw [setL, setL_get r (L.set o v) (o + 1) x, List.length_set]
    by_cases h1 : x = o
    · subst h1
      by_cases h2 : x < L.length
      · rw [if_neg (by omega), if_pos ⟨Nat.le_refl _, by simp, h2⟩, List.getElem?_set_self h2, Nat.sub_self]
        rfl
      · rw [if_neg (by omega), if_neg (by omega), List.getElem?_eq_none (by rw [List.length_set]; omega), List.getElem?_eq_none (by omega)]
    · by_cases h2 : o + 1 ≤ x ∧ x < o + 1 + r.length ∧ x < L.length
      · rw [if_pos h2, if_pos (by simp; omega), show x - o = (x - (o + 1)) + 1 by omega, List.getElem?_cons_succ]
      · rw [if_neg h2, if_neg (by simp; omega), List.getElem?_set_ne (by omega)]
theorem own_cells {w : World} {base g c : Nat} {f : Nat → List Nat} (ho : w.ownsRow base 23 32 (.slice (some ⟨g, 0, none⟩) 128 c) 128 (u8s (flt f 128))) (hf : ∀ i, (f i).length = 32) {i j : Nat} (hi : i < 128) (hj : j < 32) : w.cell? ⟨g, i * 32 + j, none⟩ = (u8s (f i))[j]? := by
  rw [ho.cellAt (i * 32 + j) (by omega)]
  unfold u8s
  rw [List.getElem?_map, List.getElem?_map, flt_get hf hi hj]
theorem kown_lt {w : World} {base g c : Nat} {xs : List Value} (ho : w.ownsRow base 23 32 (.slice (some ⟨g, 0, none⟩) 128 c) 128 xs) : base ≤ g ∧ g < w.heap.size := ho.lt g rfl
theorem kown_sds {w : World} {base g c : Nat} {f : Nat → List Nat} (ho : w.ownsRow base 23 32 (.slice (some ⟨g, 0, none⟩) 128 c) 128 (u8s (flt f 128))) (hf : ∀ i, (f i).length = 32) : Sds w (.slice (some ⟨g, 0, none⟩) 128 c) f 128 :=
  ⟨g, c, rfl, (kown_lt ho).2, fun i hi j v hv => by
    have hj : j < 32 := by have := (List.getElem?_eq_some_iff.1 hv).1; rwa [u8s_length, hf] at this
    rw [own_cells ho hf hi hj]; exact hv⟩
theorem own_there {w : World} {base g c : Nat} {f : Nat → List Nat} (ho : w.ownsRow base 23 32 (.slice (some ⟨g, 0, none⟩) 128 c) 128 (u8s (flt f 128))) (hf : ∀ i, (f i).length = 32) {i : Nat} (hi : i < 128) : w.there g (i * 32) 32 := fun j hj => by
  refine ⟨?_, ho.frozenAt _⟩
  rw [own_cells ho hf hi hj, List.getElem?_eq_getElem (by rw [u8s_length, hf]; exact hj)]
  rfl
theorem own_put {w : World} {base g c : Nat} {f : Nat → List Nat} (ho : w.ownsRow base 23 32 (.slice (some ⟨g, 0, none⟩) 128 c) 128 (u8s (flt f 128))) (hf : ∀ i, (f i).length = 32) {k : Nat} (hk : k < 128) {s : List Nat} (hs : s.length = 32) :
    Sds (w.setCells g (k * 32) (u8s s)) (.slice (some ⟨g, 0, none⟩) 128 c) (upd f k s) 128 := by
  rcases ho.2 with ⟨h0, _⟩ | ⟨g', cap, cur, hv, hg, hh, rest⟩
  · cases h0
  cases hv
  have hrow := setCells_row (u8s s) (k * 32) w cur.toList (by rw [Array.toArray_toList]; exact hh)
  refine ⟨g, c, rfl, lt_heap hrow, fun i hi j v hv => ?_⟩
  have hu : (upd f k s i).length = 32 := by
    by_cases e : i = k
    · rw [e, upd_at]; exact hs
    · rw [upd_ne e]; exact hf i
  have hj : j < 32 := by have := (List.getElem?_eq_some_iff.1 hv).1; rwa [u8s_length, hu] at this
  have hold := own_cells ho hf hi hj
  rw [cell_of_row w g _ _ _ _ hh] at hold
  have hlen : i * 32 + j < cur.size := by
    have h3 : (u8s (f i))[j]? = some ((u8s (f i))[j]'(by rw [u8s_length, hf]; exact hj)) := List.getElem?_eq_getElem _
    rw [h3] at hold
    exact (Array.getElem?_eq_some_iff.1 hold).1
  rw [cell_of_row _ g _ _ _ _ hrow, List.getElem?_toArray, setL_get, u8s_length, hs, Array.length_toList]
  by_cases e : i = k
  · subst e
    rw [upd_at] at hv
    rw [if_pos (by omega), Nat.add_sub_cancel_left]
    exact hv
  · rw [upd_ne e] at hv
    rw [if_neg (by omega), Array.getElem?_toList, hold]
    exact hv

theorem deals_match (r : List Nat) : mt (wd r 9 0) (wd r 9 1) (dk r) (dz r) (dn r) = true := mt_iff.2 fun _ _ => rfl
theorem gs_dk (r : List Nat) : Gs (dk r) := ⟨dk_len r, dk_lt r⟩
theorem gs_dz (r : List Nat) : Gs (dz r) := ⟨dz_len r, fun _ => childP_lt _ _⟩
theorem gs_dn (r : List Nat) : Gs (dn r) := ⟨dn_len r, fun _ => childP_lt _ _⟩
theorem gs_upd {f : Nat → List Nat} (h : Gs f) {s : List Nat} (hs : s.length = 32) (ts : Lt 256 s) (k : Nat) : Gs (upd f k s) :=
  ⟨fun i => by
    by_cases e : i = k
    · rw [e, upd_at]; exact hs
    · rw [upd_ne e]; exact h.len i, fun i => by
    by_cases e : i = k
    · rw [e, upd_at]; exact ts
    · rw [upd_ne e]; exact h.lt i⟩
theorem pow64_lt {k : Nat} (h : k < 64) : 2 ^ k < 18446744073709551616 := Nat.pow_lt_pow_right (by omega) h

set_option maxHeartbeats 8000000 in
theorem matches_all (w : World) (kl : List Nat) (y ii : Nat) (t : Bool) (ol : List Nat) (hk : kl.length = 32) (bk : Lt 256 kl) (hy : y < 18446744073709551616) (hii : ii < 18446744073709551616) (hol : ol.length = 32) (bol : Lt 256 ol) :
    Calls Try.prog 4 #[arr8 kl, .int .u64 (y : Int), .int .u64 (ii : Int), .bool t, arr8 ol] w fun e w' => e = .returned (.bool true) ∧ Below w.heap.size w w' := by
  have kA := fun w => hide1 (awake_any w)
  have kD := fun w => hide1 (deal_any kl y w hk bk hy)
  have hu := Try.underlying23
  have hi : (Try.prog.info? 23).map (·.size) = some (u8s kl).toArray.size := hi23 hk
  have hio : (Try.prog.info? 23).map (·.size) = some (u8s ol).toArray.size := hi23 hol
  obtain ⟨k, hkk⟩ : ∃ k, k = ii % 128 := ⟨_, rfl⟩
  have k128 : k < 128 := by omega
  have e1 : (ii : Int) % 128 = (k : Int) := by omega
  have e2 : (ii : Int).tmod 128 = (k : Int) := by rw [Int.tmod_eq_emod_of_nonneg (by omega)]; omega
  have e3 : IntKind.i64.wrap (k : Int) = (k : Int) := by rw [IntKind.wrap_i64]; omega
  have HOL := hide1 hol
  have HBO := hide1 bol
  have HIO := hide1 hio
  unfold arr8 at kD ⊢
  clear hkk hii hk bk hy hol bol hio
  go_enter Try.func4, Try.ntmps4
  go_upto_region 1 with (fail)
  generalize hW0 : World.alloc (World.alloc w _) _ = W0
  have x0 : W0.heap[w.heap.size]? = some (.cells (u8s kl).toArray 23 (0, 0)) := by rw [← hW0]; exact heap_alloc2_old _ _ _
  have x9 : W0.heap[w.heap.size + 1]? = some (.cells (u8s ol).toArray 23 (0, 0)) := by rw [← hW0]; exact heap_alloc2_new _ _ _
  have xb : Below w.heap.size w W0 := by rw [← hW0]; exact ((Below.refl _ _).alloc (Nat.le_refl _) _).alloc (by simp) _
  obtain ⟨b0, hb0⟩ : ∃ b0, b0 = w.heap.size := ⟨_, rfl⟩
  have HB0 := hide1 hb0
  rw [← hb0] at x0 x9 xb ⊢
  have X0 := hide1 x0
  have X9 := hide1 x9
  have XB := hide1 xb
  clear hW0 x0 x9 xb hb0
  go_wp2_with (first | (refine wpList_load_row rfl 23 (.tmp 5) rfl b0 rfl 23 (u8s kl).toArray (0, 0) _ X0.out hu rfl hi ?_) | fail)
  go_at_call 6
  refine (kD _).out.mono ?_
  rintro e w1 ⟨K0, Z0, O0, K1, Z1, O1, rfl, sK0, sZ0, sO0, sK1, sZ1, sO1, hb1⟩
  obtain ⟨gK0, cK0, rfl, _, _⟩ := sK0.at'
  obtain ⟨gZ0, cZ0, rfl, _, _⟩ := sZ0.at'
  obtain ⟨gO0, cO0, rfl, _, _⟩ := sO0.at'
  obtain ⟨gK1, cK1, rfl, _, _⟩ := sK1.at'
  obtain ⟨gZ1, cZ1, rfl, _, _⟩ := sZ1.at'
  obtain ⟨gO1, cO1, rfl, _, _⟩ := sO1.at'
  have l01 := lt_heap X9.out
  have B1 : Hid (Below b0 w w1) := XB.out.trans (hb1.mono (by omega))
  have Y9 : Hid (w1.heap[b0 + 1]? = some (.cells (u8s ol).toArray 23 (0, 0))) := (hb1.block _ l01).trans X9.out
  have HM0 := hide1 (deals_match (rt0 kl y))
  have HM1 := hide1 (deals_match (rt1 kl y))
  have bd0 : wd (rt0 kl y) 9 0 < 18446744073709551616 := wd_lt _ _ _
  have bd1 : wd (rt0 kl y) 9 1 < 18446744073709551616 := wd_lt _ _ _
  have bd2 : wd (rt1 kl y) 9 0 < 18446744073709551616 := wd_lt _ _ _
  have bd3 : wd (rt1 kl y) 9 1 < 18446744073709551616 := wd_lt _ _ _
  generalize hd0 : wd (rt0 kl y) 9 0 = d0 at *
  generalize hd1 : wd (rt0 kl y) 9 1 = d1 at *
  generalize hd2 : wd (rt1 kl y) 9 0 = d2 at *
  generalize hd3 : wd (rt1 kl y) 9 1 = d3 at *
  have T0 := hide1 (And.intro sK0 (And.intro sZ0 sO0))
  have T1 := hide1 (And.intro sK1 (And.intro sZ1 sO1))
  clear sK0 sZ0 sO0 sK1 sZ1 sO1 hb1 kD X0 X9 XB l01 hd0 hd1 hd2 hd3 hi
  go_upto_region 2 with (fail)
  generalize hW2 : World.alloc (World.alloc w1 _) _ = W2
  have a1 : W2.heap[w1.heap.size]? = some (.cells #[.int .u64 (d0 : Int), .int .u64 (d1 : Int), .slice (some ⟨gK0, 0, none⟩) 128 cK0, .slice (some ⟨gZ1, 0, none⟩) 128 cZ1, .slice (some ⟨gO1, 0, none⟩) 128 cO1] 33 (0, 0)) := by rw [← hW2]; exact heap_alloc2_old _ _ _
  have a2 : W2.heap[w1.heap.size + 1]? = some (.cells #[.int .u64 (d2 : Int), .int .u64 (d3 : Int), .slice (some ⟨gK1, 0, none⟩) 128 cK1, .slice (some ⟨gZ0, 0, none⟩) 128 cZ0, .slice (some ⟨gO0, 0, none⟩) 128 cO0] 33 (0, 0)) := by rw [← hW2]; exact heap_alloc2_new _ _ _
  have a3 : Below w1.heap.size w1 W2 := by rw [← hW2]; exact ((Below.refl _ _).alloc (Nat.le_refl _) _).alloc (by simp) _
  have l1 : b0 + 1 < w1.heap.size := lt_heap Y9.out
  have B2 : Hid (Below b0 w W2) := B1.out.trans (a3.mono (by omega))
  have Y9' : Hid (W2.heap[b0 + 1]? = some (.cells (u8s ol).toArray 23 (0, 0))) := (a3.block _ l1).trans Y9.out
  have S0 := hide1 (And.intro (T0.out.1.below a3 (Nat.le_refl _)) (And.intro (T0.out.2.1.below a3 (Nat.le_refl _)) (T0.out.2.2.below a3 (Nat.le_refl _))))
  have S1 := hide1 (And.intro (T1.out.1.below a3 (Nat.le_refl _)) (And.intro (T1.out.2.1.below a3 (Nat.le_refl _)) (T1.out.2.2.below a3 (Nat.le_refl _))))
  obtain ⟨bA, hbA⟩ : ∃ bA, bA = w1.heap.size := ⟨_, rfl⟩
  rw [← hbA] at a1 a2 ⊢
  have DA : Hid (∀ W', Below W2.heap.size W2 W' → W'.cell? ⟨bA, 0, none⟩ = some (.int .u64 (d0 : Int)) ∧ W'.cell? ⟨bA, 1, none⟩ = some (.int .u64 (d1 : Int)) ∧ W'.cell? ⟨bA, 2, none⟩ = some (.slice (some ⟨gK0, 0, none⟩) 128 cK0) ∧ W'.cell? ⟨bA, 3, none⟩ = some (.slice (some ⟨gZ1, 0, none⟩) 128 cZ1) ∧ W'.cell? ⟨bA, 4, none⟩ = some (.slice (some ⟨gO1, 0, none⟩) 128 cO1)) := fun W' h => by
    have e := (h.block _ (lt_heap a1)).trans a1
    refine ⟨?_, ?_, ?_, ?_, ?_⟩ <;> (rw [cell_of_row W' _ _ _ _ _ e]; rfl)
  have DB : Hid (∀ W', Below W2.heap.size W2 W' → W'.cell? ⟨bA + 1, 0, none⟩ = some (.int .u64 (d2 : Int)) ∧ W'.cell? ⟨bA + 1, 1, none⟩ = some (.int .u64 (d3 : Int)) ∧ W'.cell? ⟨bA + 1, 2, none⟩ = some (.slice (some ⟨gK1, 0, none⟩) 128 cK1) ∧ W'.cell? ⟨bA + 1, 3, none⟩ = some (.slice (some ⟨gZ0, 0, none⟩) 128 cZ0) ∧ W'.cell? ⟨bA + 1, 4, none⟩ = some (.slice (some ⟨gO0, 0, none⟩) 128 cO0)) := fun W' h => by
    have e := (h.block _ (lt_heap a2)).trans a2
    refine ⟨?_, ?_, ?_, ?_, ?_⟩ <;> (rw [cell_of_row W' _ _ _ _ _ e]; rfl)
  have l2 := lt_heap a2
  clear hW2 a1 a2 a3 hbA T0 T1 Y9 B1 l1
  obtain ⟨p0, p1, p2, _, _⟩ := DA.out W2 (Below.refl _ _)
  obtain ⟨_, _, _, r3, r4⟩ := DB.out W2 (Below.refl _ _)
  have kq := hide1 (match_any d0 d1 W2 _ _ _ _ _ _ S0.out.1 S0.out.2.1 S0.out.2.2 (gs_dk _) (gs_dz _) (gs_dn _) bd0 bd1)
  rw [HM0.out] at kq
  go_wp2_with fail
  go_at_call 11
  refine kq.out.mono ?_
  rintro e w3 ⟨rfl, hb3⟩
  have B3 := hide1 hb3
  clear kq p0 p1 p2 r3 r4 hb3
  obtain ⟨p0, p1, p2, _, _⟩ := DB.out w3 B3.out
  obtain ⟨_, _, _, r3, r4⟩ := DA.out w3 B3.out
  have kq := hide1 (match_any d2 d3 w3 _ _ _ _ _ _ (S1.out.1.below B3.out (Nat.le_refl _)) (S1.out.2.1.below B3.out (Nat.le_refl _)) (S1.out.2.2.below B3.out (Nat.le_refl _)) (gs_dk _) (gs_dz _) (gs_dn _) bd2 bd3)
  rw [HM1.out] at kq
  go_wp2_with fail
  go_at_call 11
  refine kq.out.mono ?_
  rintro e Y ⟨rfl, hbY⟩
  have B4 := hide1 (B3.out.trans (hbY.mono B3.out.size))
  clear kq p0 p1 p2 r3 r4 hbY B3
  have BY : Hid (Below b0 w Y) := B2.out.trans (B4.out.mono (by have := lt_heap Y9'.out; omega))
  have Z9 : Hid (∀ W', Below Y.heap.size Y W' → W'.heap[b0 + 1]? = some (.cells (u8s ol).toArray 23 (0, 0))) := fun W' h => by
    have h1 := (B4.out.block _ (lt_heap Y9'.out)).trans Y9'.out
    exact (h.block _ (lt_heap h1)).trans h1
  have CA := hide1 (fun W' (h : Below Y.heap.size Y W') => DA.out W' (B4.out.trans (h.mono B4.out.size)))
  have CB := hide1 (fun W' (h : Below Y.heap.size Y W') => DB.out W' (B4.out.trans (h.mono B4.out.size)))
  have SK0 := hide1 (fun W' (h : Below Y.heap.size Y W') => S0.out.1.below (B4.out.trans (h.mono B4.out.size)) (Nat.le_refl _))
  have SZ0 := hide1 (fun W' (h : Below Y.heap.size Y W') => S0.out.2.1.below (B4.out.trans (h.mono B4.out.size)) (Nat.le_refl _))
  have SO0 := hide1 (fun W' (h : Below Y.heap.size Y W') => S0.out.2.2.below (B4.out.trans (h.mono B4.out.size)) (Nat.le_refl _))
  have kC := hide1 (clone_any d0 d1 Y _ _ _ _ _ _ (SK0.out Y (Below.refl _ _)) (S1.out.2.1.below B4.out (Nat.le_refl _)) (S1.out.2.2.below B4.out (Nat.le_refl _)) (dk_len _) (dz_len _) (dn_len _))
  have GK := gs_dk (rt0 kl y)
  have GZ := gs_dz (rt0 kl y)
  have GO := gs_dn (rt0 kl y)
  have n128 : ((128 : Int) != 128) = false := by decide
  obtain ⟨p0, p1, p2, p3, p4⟩ := CA.out Y (Below.refl _ _)
  clear S0 S1 DA DB B2 HM1 Y9' l2 B4 bd2 bd3
  go_wp2_with fail
  go_at_call 12
  refine kC.out.mono ?_
  rintro e w6 ⟨vK, dK, vZ, dZ, vO, dO, rfl, hoK, hb6⟩
  clear p0 p1 p2 p3 p4 kC
  have o7 := own_below2 hoK (show Below w6.heap.size w6 (w6.alloc (.cells #[.int .u64 (d0 : Int), .int .u64 (d1 : Int), .slice (some ⟨vK, 0, none⟩) 128 dK, .slice (some ⟨vZ, 0, none⟩) 128 dZ, .slice (some ⟨vO, 0, none⟩) 128 dO] 33)) from (Below.refl _ _).alloc (Nat.le_refl _) _)
  have r7 := heap_alloc_new w6 (.cells #[.int .u64 (d0 : Int), .int .u64 (d1 : Int), .slice (some ⟨vK, 0, none⟩) 128 dK, .slice (some ⟨vZ, 0, none⟩) 128 dZ, .slice (some ⟨vO, 0, none⟩) 128 dO] 33)
  have b7 : Below Y.heap.size Y (w6.alloc (.cells #[.int .u64 (d0 : Int), .int .u64 (d1 : Int), .slice (some ⟨vK, 0, none⟩) 128 dK, .slice (some ⟨vZ, 0, none⟩) 128 dZ, .slice (some ⟨vO, 0, none⟩) 128 dO] 33)) := hb6.alloc hb6.size _
  have ne7 : vK ≠ w6.heap.size := by have := (kown_lt hoK).2; omega
  have le7 : Y.heap.size ≤ w6.heap.size := hb6.size
  go_upto_region 5 with (fail)
  generalize w6.alloc (.cells #[.int .u64 (d0 : Int), .int .u64 (d1 : Int), .slice (some ⟨vK, 0, none⟩) 128 dK, .slice (some ⟨vZ, 0, none⟩) 128 dZ, .slice (some ⟨vO, 0, none⟩) 128 dO] 33) = W7 at *
  generalize w6.heap.size = bC at *
  have O7 := hide1 o7
  have R7 := hide1 r7
  have B7 := hide1 b7
  clear hoK hb6 o7 r7 b7
  have m0 : W7.cell? ⟨bC, 0, none⟩ = some (.int .u64 (d0 : Int)) := by rw [cell_of_row W7 _ _ _ _ _ R7.out]; rfl
  have m1 : W7.cell? ⟨bC, 1, none⟩ = some (.int .u64 (d1 : Int)) := by rw [cell_of_row W7 _ _ _ _ _ R7.out]; rfl
  have m2 : W7.cell? ⟨bC, 2, none⟩ = some (.slice (some ⟨vK, 0, none⟩) 128 dK) := by rw [cell_of_row W7 _ _ _ _ _ R7.out]; rfl
  obtain ⟨_, _, _, r3, r4⟩ := CB.out W7 B7.out
  cases t
  · have HTH : Hid (W7.there vK (k * 32) (u8s ol).toArray.size) := by
      rw [show (u8s ol).toArray.size = 32 by simp [u8s_length, HOL.out]]
      exact own_there O7.out (dk_len _) k128
    have z9 := hide1 (Z9.out W7 B7.out)
    have H1o : Hid ((u8s ol).toArray.all (·.oneCell') = true) := all_one (u8s_one _)
    have kk : (k : Int) < 128 := by omega
    go_upto_region 11 with (first | (refine wpList_load_row rfl 23 (.tmp 9) rfl (b0 + 1) rfl 23 (u8s ol).toArray (0, 0) _ z9.out hu rfl HIO.out ?_) | (refine wpList_store_mid rfl 23 (.tmp 82) (.tmp 81) rfl vK (k * 32) (u8s ol).toArray rfl rfl HTH.out HIO.out H1o.out ?_) | fail)
    generalize hW8 : World.setCells _ _ _ _ = W8
    have SK : Hid (Sds W8 (.slice (some ⟨vK, 0, none⟩) 128 dK) (upd (dk (rt0 kl y)) k ol) 128) := by rw [← hW8]; exact own_put O7.out (dk_len _) k128 HOL.out
    have RC : Hid (W8.heap[bC]? = some (.cells #[.int .u64 (d0 : Int), .int .u64 (d1 : Int), .slice (some ⟨vK, 0, none⟩) 128 dK, .slice (some ⟨vZ, 0, none⟩) 128 dZ, .slice (some ⟨vO, 0, none⟩) 128 dO] 33 (0, 0))) := by rw [← hW8]; exact (setCells_other (Ne.symm ne7) _ _ _).trans R7.out
    have BW8 : Hid (Below Y.heap.size Y W8) := by rw [← hW8]; exact below_setCells (kown_lt O7.out).1 _ _ _ B7.out
    clear hW8
    have CC : Hid (∀ W', Below W8.heap.size W8 W' → W'.cell? ⟨bC, 0, none⟩ = some (.int .u64 (d0 : Int)) ∧ W'.cell? ⟨bC, 1, none⟩ = some (.int .u64 (d1 : Int)) ∧ W'.cell? ⟨bC, 2, none⟩ = some (.slice (some ⟨vK, 0, none⟩) 128 dK) ∧ True ∧ True) := fun W' h => by
      have e := (h.block _ (lt_heap RC.out)).trans RC.out
      refine ⟨?_, ?_, ?_, trivial, trivial⟩ <;> (rw [cell_of_row W' _ _ _ _ _ e]; rfl)
    clear m0 m1 m2 r3 r4 R7 O7 B7 RC z9 HTH H1o Z9
    obtain ⟨m0, m1, m2, _, _⟩ := CC.out W8 (Below.refl _ _)
    obtain ⟨_, _, _, r3, r4⟩ := CB.out W8 BW8.out
    have kq := hide1 (rmatch_any d0 d1 W8 _ _ _ _ _ _ SK.out (SZ0.out W8 BW8.out) (SO0.out W8 BW8.out) (gs_upd GK HOL.out HBO.out k) GZ GO)
    obtain ⟨q, hq⟩ : ∃ q, q = mt d0 d1 (upd (dk (rt0 kl y)) k ol) (dz (rt0 kl y)) (dn (rt0 kl y)) := ⟨_, rfl⟩
    rw [← hq] at kq
    go_wp2_with fail
    go_at_call 13
    refine kq.out.mono ?_
    rintro e u1 ⟨rfl, hu1⟩
    have U1 := hide1 hu1
    clear kq m0 m1 m2 r3 r4 hu1
    obtain ⟨m0, m1, m2, _, _⟩ := CC.out u1 U1.out
    have BU1 := hide1 (BW8.out.trans (U1.out.mono BW8.out.size))
    obtain ⟨_, _, _, r3, r4⟩ := CB.out u1 BU1.out
    have kq := hide1 (match_any d0 d1 u1 _ _ _ _ _ _ (SK.out.below U1.out (Nat.le_refl _)) (SZ0.out u1 BU1.out) (SO0.out u1 BU1.out) (gs_upd GK HOL.out HBO.out k) GZ GO bd0 bd1)
    rw [← hq] at kq
    clear hq
    go_wp2_with fail
    go_at_call 11
    refine kq.out.mono ?_
    rintro e u2 ⟨rfl, hu2⟩
    have BU2 := hide1 (BU1.out.trans (hu2.mono BU1.out.size))
    have hqq : (q == q) = true := by simp
    clear kq m0 m1 m2 r3 r4 hu2 U1 BU1 CC SK BW8
    obtain ⟨p0, p1, p2, _, _⟩ := CA.out u2 BU2.out
    obtain ⟨_, _, _, r3, r4⟩ := CB.out u2 BU2.out
    have kq := hide1 (match_any d0 d1 u2 _ _ _ _ _ _ (SK0.out u2 BU2.out) (SZ0.out u2 BU2.out) (SO0.out u2 BU2.out) GK GZ GO bd0 bd1)
    rw [HM0.out] at kq
    go_wp2_with fail
    go_at_call 11
    refine kq.out.mono ?_
    rintro e u3 ⟨rfl, hu3⟩
    have BU3 := hide1 (BU2.out.trans (hu3.mono BU2.out.size))
    clear kq p0 p1 p2 r3 r4 hu3 BU2 hqq
    obtain ⟨_, _, _, r3, r4⟩ := CB.out u3 BU3.out
    have kq := hide1 (match_none u3 (.slice (some ⟨gZ0, 0, none⟩) 128 cZ0) (.slice (some ⟨gO0, 0, none⟩) 128 cO0) rfl rfl)
    go_wp2_with fail
    go_at_call 11
    refine kq.out.mono ?_
    rintro e u4 ⟨rfl, hu4⟩
    have BU4 := hide1 (BU3.out.trans (hu4.mono BU3.out.size))
    clear kq r3 r4 hu4 BU3
    go_wp2_with fail
    go_at_call 10
    refine (kA _).out.mono ?_
    rintro e u5 ⟨rfl, hu5⟩
    have BU5 := hide1 (BU4.out.trans (hu5.mono BU4.out.size))
    have l5 := BY.out.size
    clear hu5 BU4
    go_wp2
    go_ret
    rw [← HB0.out] at l5 ⊢
    exact ⟨rfl, BY.out.trans (BU5.out.mono l5)⟩
  · by_cases hlo : k < 64
    · have c6 : k < 64 := hlo
      obtain ⟨kq, hkq⟩ : ∃ kq, kq = k % 64 := ⟨_, rfl⟩
      have f1 : (k : Int) / 64 = 0 := by omega
      have f2 : (k : Int) % 64 = (kq : Int) := by omega
      have f3 : IntKind.u64.wrap (kq : Int) = (kq : Int) := by rw [IntKind.wrap_u64]; omega
      have kq64 : kq < 64 := by omega
      obtain ⟨pw, hpw⟩ : ∃ pw, pw = 2 ^ kq := ⟨_, rfl⟩
      have lpw : pw < 18446744073709551616 := by rw [hpw]; exact pow64_lt kq64
      have f4 : (2 : Int) ^ kq = (pw : Int) := by rw [hpw, Int.natCast_pow]; rfl
      have f5 : IntKind.u64.wrap (2 ^ kq) = (pw : Int) := by rw [f4, IntKind.wrap_u64]; omega
      have f5' : IntKind.u64.wrap (pw : Int) = (pw : Int) := by rw [IntKind.wrap_u64]; omega
      obtain ⟨dx, hdx⟩ : ∃ dx, dx = d0 ^^^ pw := ⟨_, rfl⟩
      have ldx : dx < 18446744073709551616 := by rw [hdx]; exact Nat.xor_lt_two_pow (n := 64) bd0 lpw
      have f6 : bits .xor .u64 (d0 : Int) (pw : Int) = (dx : Int) := by rw [u64_xor_nat _ _ bd0 lpw, hdx]
      have fz := frozen_of_row W7 bC 0 _ _ R7.out
      clear hkq hpw hdx c6 hlo lpw
      go_upto_region 11 with (fail)
      have SK : Hid (Sds (W7.setCell ⟨bC, 0, none⟩ (.int .u64 (dx : Int))) (.slice (some ⟨vK, 0, none⟩) 128 dK) (dk (rt0 kl y)) 128) := by
        have h9 := kown_sds O7.out (dk_len (rt0 kl y))
        obtain ⟨g9, c9, e9, l9, hr9⟩ := h9.at'
        cases e9
        exact ⟨vK, dK, rfl, by simpa using l9, fun i hi j v hv => by
          have h8 := hr9 i hi j v hv
          simp only [World.cell?] at h8 ⊢
          rw [heap_setCell_other W7 ⟨bC, 0, none⟩ vK _ ne7]
          exact h8⟩
      have RC : Hid ((W7.setCell ⟨bC, 0, none⟩ (.int .u64 (dx : Int))).heap[bC]? = some (.cells #[.int .u64 (dx : Int), .int .u64 (d1 : Int), .slice (some ⟨vK, 0, none⟩) 128 dK, .slice (some ⟨vZ, 0, none⟩) 128 dZ, .slice (some ⟨vO, 0, none⟩) 128 dO] 33 (0, 0))) := by
        rw [heap_setCell_same W7 bC 0 _ _ _ R7.out]
        rfl
      have BW8 : Hid (Below Y.heap.size Y (W7.setCell ⟨bC, 0, none⟩ (.int .u64 (dx : Int)))) := B7.out.setCell le7 _
      generalize W7.setCell ⟨bC, 0, none⟩ (.int .u64 (dx : Int)) = W8 at *
      have CC : Hid (∀ W', Below W8.heap.size W8 W' → W'.cell? ⟨bC, 0, none⟩ = some (.int .u64 (dx : Int)) ∧ W'.cell? ⟨bC, 1, none⟩ = some (.int .u64 (d1 : Int)) ∧ W'.cell? ⟨bC, 2, none⟩ = some (.slice (some ⟨vK, 0, none⟩) 128 dK) ∧ True ∧ True) := fun W' h => by
        have e := (h.block _ (lt_heap RC.out)).trans RC.out
        refine ⟨?_, ?_, ?_, trivial, trivial⟩ <;> (rw [cell_of_row W' _ _ _ _ _ e]; rfl)
      clear m0 m1 m2 r3 r4 R7 O7 B7 RC Z9 fz f1 f2 f3 f4 f5 f5' f6
      obtain ⟨m0, m1, m2, _, _⟩ := CC.out W8 (Below.refl _ _)
      obtain ⟨_, _, _, r3, r4⟩ := CB.out W8 BW8.out
      have kq := hide1 (rmatch_any dx d1 W8 _ _ _ _ _ _ SK.out (SZ0.out W8 BW8.out) (SO0.out W8 BW8.out) GK GZ GO)
      obtain ⟨q, hq⟩ : ∃ q, q = mt dx d1 (dk (rt0 kl y)) (dz (rt0 kl y)) (dn (rt0 kl y)) := ⟨_, rfl⟩
      rw [← hq] at kq
      go_wp2_with fail
      go_at_call 13
      refine kq.out.mono ?_
      rintro e u1 ⟨rfl, hu1⟩
      have U1 := hide1 hu1
      clear kq m0 m1 m2 r3 r4 hu1
      obtain ⟨m0, m1, m2, _, _⟩ := CC.out u1 U1.out
      have BU1 := hide1 (BW8.out.trans (U1.out.mono BW8.out.size))
      obtain ⟨_, _, _, r3, r4⟩ := CB.out u1 BU1.out
      have kq := hide1 (match_any dx d1 u1 _ _ _ _ _ _ (SK.out.below U1.out (Nat.le_refl _)) (SZ0.out u1 BU1.out) (SO0.out u1 BU1.out) GK GZ GO ldx bd1)
      rw [← hq] at kq
      clear hq
      go_wp2_with fail
      go_at_call 11
      refine kq.out.mono ?_
      rintro e u2 ⟨rfl, hu2⟩
      have BU2 := hide1 (BU1.out.trans (hu2.mono BU1.out.size))
      have hqq : (q == q) = true := by simp
      clear kq m0 m1 m2 r3 r4 hu2 U1 BU1 CC SK BW8
      obtain ⟨p0, p1, p2, _, _⟩ := CA.out u2 BU2.out
      obtain ⟨_, _, _, r3, r4⟩ := CB.out u2 BU2.out
      have kq := hide1 (match_any d0 d1 u2 _ _ _ _ _ _ (SK0.out u2 BU2.out) (SZ0.out u2 BU2.out) (SO0.out u2 BU2.out) GK GZ GO bd0 bd1)
      rw [HM0.out] at kq
      go_wp2_with fail
      go_at_call 11
      refine kq.out.mono ?_
      rintro e u3 ⟨rfl, hu3⟩
      have BU3 := hide1 (BU2.out.trans (hu3.mono BU2.out.size))
      clear kq p0 p1 p2 r3 r4 hu3 BU2 hqq
      obtain ⟨_, _, _, r3, r4⟩ := CB.out u3 BU3.out
      have kq := hide1 (match_none u3 (.slice (some ⟨gZ0, 0, none⟩) 128 cZ0) (.slice (some ⟨gO0, 0, none⟩) 128 cO0) rfl rfl)
      go_wp2_with fail
      go_at_call 11
      refine kq.out.mono ?_
      rintro e u4 ⟨rfl, hu4⟩
      have BU4 := hide1 (BU3.out.trans (hu4.mono BU3.out.size))
      clear kq r3 r4 hu4 BU3
      go_wp2_with fail
      go_at_call 10
      refine (kA _).out.mono ?_
      rintro e u5 ⟨rfl, hu5⟩
      have BU5 := hide1 (BU4.out.trans (hu5.mono BU4.out.size))
      have l5 := BY.out.size
      clear hu5 BU4
      go_wp2
      go_ret
      rw [← HB0.out] at l5 ⊢
      exact ⟨rfl, BY.out.trans (BU5.out.mono l5)⟩
    · have c6 : ¬ k < 64 := hlo
      obtain ⟨kq, hkq⟩ : ∃ kq, kq = k % 64 := ⟨_, rfl⟩
      have f1 : (k : Int) / 64 = 1 := by omega
      have f2 : (k : Int) % 64 = (kq : Int) := by omega
      have f3 : IntKind.u64.wrap (kq : Int) = (kq : Int) := by rw [IntKind.wrap_u64]; omega
      have kq64 : kq < 64 := by omega
      obtain ⟨pw, hpw⟩ : ∃ pw, pw = 2 ^ kq := ⟨_, rfl⟩
      have lpw : pw < 18446744073709551616 := by rw [hpw]; exact pow64_lt kq64
      have f4 : (2 : Int) ^ kq = (pw : Int) := by rw [hpw, Int.natCast_pow]; rfl
      have f5 : IntKind.u64.wrap (2 ^ kq) = (pw : Int) := by rw [f4, IntKind.wrap_u64]; omega
      have f5' : IntKind.u64.wrap (pw : Int) = (pw : Int) := by rw [IntKind.wrap_u64]; omega
      obtain ⟨dx, hdx⟩ : ∃ dx, dx = d1 ^^^ pw := ⟨_, rfl⟩
      have ldx : dx < 18446744073709551616 := by rw [hdx]; exact Nat.xor_lt_two_pow (n := 64) bd1 lpw
      have f6 : bits .xor .u64 (d1 : Int) (pw : Int) = (dx : Int) := by rw [u64_xor_nat _ _ bd1 lpw, hdx]
      have fz := frozen_of_row W7 bC 1 _ _ R7.out
      clear hkq hpw hdx c6 hlo lpw
      go_upto_region 11 with (fail)
      have SK : Hid (Sds (W7.setCell ⟨bC, 1, none⟩ (.int .u64 (dx : Int))) (.slice (some ⟨vK, 0, none⟩) 128 dK) (dk (rt0 kl y)) 128) := by
        have h9 := kown_sds O7.out (dk_len (rt0 kl y))
        obtain ⟨g9, c9, e9, l9, hr9⟩ := h9.at'
        cases e9
        exact ⟨vK, dK, rfl, by simpa using l9, fun i hi j v hv => by
          have h8 := hr9 i hi j v hv
          simp only [World.cell?] at h8 ⊢
          rw [heap_setCell_other W7 ⟨bC, 1, none⟩ vK _ ne7]
          exact h8⟩
      have RC : Hid ((W7.setCell ⟨bC, 1, none⟩ (.int .u64 (dx : Int))).heap[bC]? = some (.cells #[.int .u64 (d0 : Int), .int .u64 (dx : Int), .slice (some ⟨vK, 0, none⟩) 128 dK, .slice (some ⟨vZ, 0, none⟩) 128 dZ, .slice (some ⟨vO, 0, none⟩) 128 dO] 33 (0, 0))) := by
        rw [heap_setCell_same W7 bC 1 _ _ _ R7.out]
        rfl
      have BW8 : Hid (Below Y.heap.size Y (W7.setCell ⟨bC, 1, none⟩ (.int .u64 (dx : Int)))) := B7.out.setCell le7 _
      generalize W7.setCell ⟨bC, 1, none⟩ (.int .u64 (dx : Int)) = W8 at *
      have CC : Hid (∀ W', Below W8.heap.size W8 W' → W'.cell? ⟨bC, 0, none⟩ = some (.int .u64 (d0 : Int)) ∧ W'.cell? ⟨bC, 1, none⟩ = some (.int .u64 (dx : Int)) ∧ W'.cell? ⟨bC, 2, none⟩ = some (.slice (some ⟨vK, 0, none⟩) 128 dK) ∧ True ∧ True) := fun W' h => by
        have e := (h.block _ (lt_heap RC.out)).trans RC.out
        refine ⟨?_, ?_, ?_, trivial, trivial⟩ <;> (rw [cell_of_row W' _ _ _ _ _ e]; rfl)
      clear m0 m1 m2 r3 r4 R7 O7 B7 RC Z9 fz f1 f2 f3 f4 f5 f5' f6
      obtain ⟨m0, m1, m2, _, _⟩ := CC.out W8 (Below.refl _ _)
      obtain ⟨_, _, _, r3, r4⟩ := CB.out W8 BW8.out
      have kq := hide1 (rmatch_any d0 dx W8 _ _ _ _ _ _ SK.out (SZ0.out W8 BW8.out) (SO0.out W8 BW8.out) GK GZ GO)
      obtain ⟨q, hq⟩ : ∃ q, q = mt d0 dx (dk (rt0 kl y)) (dz (rt0 kl y)) (dn (rt0 kl y)) := ⟨_, rfl⟩
      rw [← hq] at kq
      go_wp2_with fail
      go_at_call 13
      refine kq.out.mono ?_
      rintro e u1 ⟨rfl, hu1⟩
      have U1 := hide1 hu1
      clear kq m0 m1 m2 r3 r4 hu1
      obtain ⟨m0, m1, m2, _, _⟩ := CC.out u1 U1.out
      have BU1 := hide1 (BW8.out.trans (U1.out.mono BW8.out.size))
      obtain ⟨_, _, _, r3, r4⟩ := CB.out u1 BU1.out
      have kq := hide1 (match_any d0 dx u1 _ _ _ _ _ _ (SK.out.below U1.out (Nat.le_refl _)) (SZ0.out u1 BU1.out) (SO0.out u1 BU1.out) GK GZ GO bd0 ldx)
      rw [← hq] at kq
      clear hq
      go_wp2_with fail
      go_at_call 11
      refine kq.out.mono ?_
      rintro e u2 ⟨rfl, hu2⟩
      have BU2 := hide1 (BU1.out.trans (hu2.mono BU1.out.size))
      have hqq : (q == q) = true := by simp
      clear kq m0 m1 m2 r3 r4 hu2 U1 BU1 CC SK BW8
      obtain ⟨p0, p1, p2, _, _⟩ := CA.out u2 BU2.out
      obtain ⟨_, _, _, r3, r4⟩ := CB.out u2 BU2.out
      have kq := hide1 (match_any d0 d1 u2 _ _ _ _ _ _ (SK0.out u2 BU2.out) (SZ0.out u2 BU2.out) (SO0.out u2 BU2.out) GK GZ GO bd0 bd1)
      rw [HM0.out] at kq
      go_wp2_with fail
      go_at_call 11
      refine kq.out.mono ?_
      rintro e u3 ⟨rfl, hu3⟩
      have BU3 := hide1 (BU2.out.trans (hu3.mono BU2.out.size))
      clear kq p0 p1 p2 r3 r4 hu3 BU2 hqq
      obtain ⟨_, _, _, r3, r4⟩ := CB.out u3 BU3.out
      have kq := hide1 (match_none u3 (.slice (some ⟨gZ0, 0, none⟩) 128 cZ0) (.slice (some ⟨gO0, 0, none⟩) 128 cO0) rfl rfl)
      go_wp2_with fail
      go_at_call 11
      refine kq.out.mono ?_
      rintro e u4 ⟨rfl, hu4⟩
      have BU4 := hide1 (BU3.out.trans (hu4.mono BU3.out.size))
      clear kq r3 r4 hu4 BU3
      go_wp2_with fail
      go_at_call 10
      refine (kA _).out.mono ?_
      rintro e u5 ⟨rfl, hu5⟩
      have BU5 := hide1 (BU4.out.trans (hu5.mono BU4.out.size))
      have l5 := BY.out.size
      clear hu5 BU4
      go_wp2
      go_ret
      rw [← HB0.out] at l5 ⊢
      exact ⟨rfl, BY.out.trans (BU5.out.mono l5)⟩
end Go.Proofs.Ytpigbhmamaghgaa
