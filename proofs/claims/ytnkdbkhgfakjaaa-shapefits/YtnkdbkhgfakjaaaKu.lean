/- Fits: which shares are of a class. -/
import Derived.Test.YtnkdbkhgfakjaaaKn
namespace Go.Proofs.Ytnkdbkhgfakjaaa
open Go.RowKit
set_option maxRecDepth 100000
attribute [local go_sem] not_any mf_any

/- words to be read -/
structure Ul (W : World) (n : Nat) (a : Option Addr) (l : List Nat) : Prop where
  len : l.length = n
  at' : ∀ (j x : Nat), l[j]? = some x → ∃ g o, a = some ⟨g, o, none⟩ ∧ W.cell? ⟨g, o + j, none⟩ = some (.int .u64 (x : Int)) ∧ g < W.heap.size
  lt : ∀ x ∈ l, x < 18446744073709551616
theorem Ul.below {W W' : World} {n : Nat} {a : Option Addr} {l : List Nat} (h : Ul W n a l) (hb : Below W.heap.size W W') : Ul W' n a l :=
  ⟨h.len, fun j x hj => by
    obtain ⟨g, o, e, hc, hl⟩ := h.at' j x hj
    exact ⟨g, o, e, (hb.cell hl).trans hc, Nat.lt_of_lt_of_le hl hb.size⟩, h.lt⟩

def fitP (size : Int) (wd : Nat) (l : List Nat) : Bool := decide ((l.length : Int) = size ∧ ∀ x ∈ l, x < 2 ^ wd)

set_option maxHeartbeats 1000000 in
theorem partFits_any (n cap wd : Nat) (a : Option Addr) (l : List Nat) (size : Int) (w : World) (hl : Ul w n a l) (hn : n ≤ 60) (hwd : wd ≤ 64) :
    Calls Try.prog 25 #[.slice a n cap, .int .i64 size, .int .i64 (wd : Int)] w fun e w' => e = .returned (.bool (fitP size wd l)) ∧ w' = w := by
  have HL := hide1 hl
  have hlen := hl.len
  clear hl
  by_cases hs : (n : Int) = size
  · subst hs
    have hs' : ((n : Int) != (n : Int)) = false := by simp
    go_enter Try.func25, Try.ntmps25
    go_wp2
    go_loop [15] (fun i => ∃ k : Nat, k ≤ n ∧ i = .int .i64 k ∧ ∀ x ∈ l.take k, x < 2 ^ wd) (fun i => n - (intOf i).toNat)
    case atStart => exact ⟨0, Nat.zero_le _, rfl, fun x hx => by simp at hx⟩
    case round =>
      obtain ⟨k, hk, rfl, hall⟩ := hrel
      have HA := hide1 hall
      clear hall
      by_cases hlt : k < n
      · obtain ⟨x, hx⟩ : ∃ x, l[k]? = some x := ⟨l[k]'(by omega), List.getElem?_eq_getElem (by omega)⟩
        obtain ⟨g, o, ha, hc, hg⟩ := HL.out.at' k x hx
        have HM : Shy (x ∈ l) := ⟨List.mem_of_getElem? hx⟩
        have HT : Shy (l.take (k + 1) = l.take k ++ [x]) := ⟨by rw [List.take_add_one, hx]; rfl⟩
        have hb := HL.out.lt x HM.out
        subst ha
        clear hx
        have hq : (x < 2 ^ wd) ↔ x / 2 ^ wd = 0 := ⟨fun h => Nat.div_eq_of_lt h, fun h => (Nat.div_eq_zero_iff.1 h).resolve_left (by have := Nat.two_pow_pos wd; omega)⟩
        have HQ : Shy ((x < 2 ^ wd) ↔ x / 2 ^ wd = 0) := ⟨hq⟩
        clear hq
        by_cases hz : x / 2 ^ wd = 0
        · have hz' : (((x : Int) / 2 ^ wd) != 0) = false := by
            have : ((x : Int) / 2 ^ wd) = ((x / 2 ^ wd : Nat) : Int) := by simp
            rw [this, hz]; rfl
          have HZ : Shy (x < 2 ^ wd) := ⟨HQ.out.2 hz⟩
          clear hz HQ
          go_wp2
          go_round
          case rel => exact ⟨k + 1, by omega, by go_num, by rw [HT.out]; intro y hy; exact (List.mem_append.1 hy).elim (HA.out y) (fun h => by rw [List.mem_singleton.1 h]; exact HZ.out)⟩
          case measure => simp [intOf]; omega
        · have hz' : (((x : Int) / 2 ^ wd) != 0) = true := by
            have : ((x : Int) / 2 ^ wd) = ((x / 2 ^ wd : Nat) : Int) := by simp
            rw [this, bne_iff_ne]
            intro e
            exact hz (by exact_mod_cast e)
          have HZ : Shy (fitP (n : Int) wd l = false) := ⟨decide_eq_false (fun h => hz (HQ.out.1 (h.2 x HM.out)))⟩
          clear hz HQ
          go_wp2
          go_ret
          rw [HZ.out]
          exact ⟨rfl, rfl⟩
      · have HZ : Shy (fitP (n : Int) wd l = true) := ⟨decide_eq_true ⟨by omega, fun x hx => HA.out x (by rw [List.take_of_length_le (by omega)]; exact hx)⟩⟩
        go_wp2
        go_ret
        rw [HZ.out]
        exact ⟨rfl, rfl⟩
  · have hs' : ((n : Int) != size) = true := by simpa using hs
    have HZ : Shy (fitP size wd l = false) := ⟨decide_eq_false (fun h => hs (by rw [← h.1, hlen]))⟩
    go_enter Try.func25, Try.ntmps25
    go_wp2
    go_ret
    rw [HZ.out]
    exact ⟨rfl, rfl⟩

theorem box3s {w : World} {g : Nat} {x y z : Value} {t : TypeId} (h : w.heap[g]? = some (.cells #[x, y, z] t (0, 0))) :
    w.cell? ⟨g, 0, none⟩ = some x ∧ w.cell? ⟨g, 1, none⟩ = some y ∧ w.cell? ⟨g, 2, none⟩ = some z ∧ g < w.heap.size := tri_cells h

set_option maxHeartbeats 2000000 in
theorem fits_no (k b m q n : Int) (u0 u1 u2 : Value) (w : World) (_h0 : u0.oneCell' = true) (_h1 : u1.oneCell' = true) (_h2 : u2.oneCell' = true) (hm : ¬ May k b m q n) :
    Calls Try.prog 17 #[cls k b m q n, .agg #[u0, u1, u2]] w fun e w' => e = .returned (.bool false) ∧ Below w.heap.size w w' := by
  have kM := fun w => hide1 (mayBe_any k b m q n w)
  rw [decide_eq_false hm] at kM
  unfold cls at *
  go_enter Try.func17, Try.ntmps17
  go_upto_region 1 with (fail)
  generalize hX : World.alloc (World.alloc w _) _ = X
  have HX : Hid (Below w.heap.size w X) := by rw [← hX]; exact ((Below.refl _ _).alloc (Nat.le_refl _) _).alloc (by simp) _
  have H1 := hide1 (hX ▸ heap_alloc2_old w _ _)
  clear hX
  obtain ⟨p0, p1, p2, p3, p4, l0⟩ := box5 H1.out
  go_wp2_with fail
  refine (kM _).out.mono ?_
  rintro e w1 ⟨rfl, hb⟩
  have HX1 := hide1 (HX.out.trans (hb.mono HX.out.size))
  clear hb p0 p1 p2 p3 p4 l0 H1 HX
  go_wp2
  go_ret
  exact ⟨rfl, HX1.out⟩

set_option maxHeartbeats 4000000 in
theorem fits_yes (k b m q n : Int) (n0 n1 n2 c0 c1 c2 : Nat) (a0 a1 a2 : Option Addr) (l0 l1 l2 : List Nat) (w : World) (hm : May k b m q n) (h0 : Ul w n0 a0 l0) (h1 : Ul w n1 a1 l1) (h2 : Ul w n2 a2 l2) (s0 : n0 ≤ 60) (s1 : n1 ≤ 60) (s2 : n2 ≤ 60) :
    Calls Try.prog 17 #[cls k b m q n, .agg #[.slice a0 n0 c0, .slice a1 n1 c1, .slice a2 n2 c2]] w fun e w' => e = .returned (.bool (fitP (sz1 k b m q n) (wd1 k b m q n).toNat l0 && fitP (sz2 k b m q n) (wd2 k b m q n).toNat l1 && fitP (sz3 k b m q n) (wd2 k b m q n).toNat l2)) ∧ Below w.heap.size w w' := by
  have mx := mixed
  have kM := fun w => hide1 (mayBe_any k b m q n w)
  rw [decide_eq_true hm] at kM
  have kS := fun w => hide1 (sizes_any k b m q n w)
  have kW := fun w => hide1 (widths_any k b m q n w)
  have bw1 := wd1_le hm
  have bw2 := wd2_le hm
  obtain ⟨u1, hu1⟩ : ∃ u : Nat, (wd1 k b m q n).toNat = u := ⟨_, rfl⟩
  obtain ⟨u2, hu2⟩ : ∃ u : Nat, (wd2 k b m q n).toNat = u := ⟨_, rfl⟩
  have e1 : wd1 k b m q n = (u1 : Int) := by omega
  have e2 : wd2 k b m q n = (u2 : Int) := by omega
  rw [hu1, hu2]
  rw [e1, e2] at kW
  have L0 := hide1 h0
  have L1 := hide1 h1
  have L2 := hide1 h2
  have kP0 := fun (W : World) (size : Int) (h : Ul W n0 a0 l0) => hide1 (partFits_any n0 c0 u1 a0 l0 size W h s0 (by omega))
  have kP1 := fun (W : World) (size : Int) (h : Ul W n1 a1 l1) => hide1 (partFits_any n1 c1 u2 a1 l1 size W h s1 (by omega))
  have kP2 := fun (W : World) (size : Int) (h : Ul W n2 a2 l2) => hide1 (partFits_any n2 c2 u2 a2 l2 size W h s2 (by omega))
  clear h0 h1 h2 s0 s1 s2 hm bw1 bw2 hu1 hu2 e1 e2
  generalize sz1 k b m q n = x1 at *
  generalize sz2 k b m q n = x2 at *
  generalize sz3 k b m q n = x3 at *
  unfold cls at *
  go_enter Try.func17, Try.ntmps17
  go_upto_region 1 with (fail)
  generalize hX : World.alloc (World.alloc w _) _ = X
  have HX : Hid (Below w.heap.size w X) := by rw [← hX]; exact ((Below.refl _ _).alloc (Nat.le_refl _) _).alloc (by simp) _
  have H1 := hide1 (hX ▸ heap_alloc2_old w _ _)
  have H2 := hide1 (hX ▸ heap_alloc2_new w _ _)
  obtain ⟨b2, hb2⟩ : ∃ b, w.heap.size + 1 = b := ⟨_, rfl⟩
  obtain ⟨b1, hb1⟩ : ∃ b, w.heap.size = b := ⟨_, rfl⟩
  rw [hb2] at H2 ⊢
  rw [hb1] at H1 ⊢
  clear hX hb1 hb2
  obtain ⟨p0, p1, p2, p3, p4, lp⟩ := box5 H1.out
  go_wp2_with fail
  refine (kM _).out.mono ?_
  rintro e w1 ⟨rfl, hb⟩
  have H3 := hide1 ((hb.block _ (lt_heap H1.out)).trans H1.out)
  have H4 := hide1 ((hb.block _ (lt_heap H2.out)).trans H2.out)
  have HX1 := hide1 (HX.out.trans (hb.mono HX.out.size))
  clear hb p0 p1 p2 p3 p4 lp H1 H2 HX
  obtain ⟨p0, p1, p2, p3, p4, lp⟩ := box5 H3.out
  go_wp2_with fail
  refine (kS _).out.mono ?_
  rintro e w2 ⟨rfl, hb⟩
  have H5 := hide1 ((hb.block _ (lt_heap H3.out)).trans H3.out)
  have H6 := hide1 ((hb.block _ (lt_heap H4.out)).trans H4.out)
  have HX2 := hide1 (HX1.out.trans (hb.mono HX1.out.size))
  clear hb p0 p1 p2 p3 p4 lp H3 H4 HX1
  obtain ⟨p0, p1, p2, p3, p4, lp⟩ := box5 H5.out
  go_wp2_with fail
  refine (kW _).out.mono ?_
  rintro e w3 ⟨rfl, hb⟩
  have H8 := hide1 ((hb.block _ (lt_heap H6.out)).trans H6.out)
  have HX3 := hide1 (HX2.out.trans (hb.mono HX2.out.size))
  clear hb p0 p1 p2 p3 p4 lp H5 H6 HX2
  obtain ⟨d0, d1, d2, ld⟩ := box3s H8.out
  have k0 := kP0 w3 x1 (L0.out.below HX3.out)
  have k1 := kP1 w3 x2 (L1.out.below HX3.out)
  have k2 := kP2 w3 x3 (L2.out.below HX3.out)
  clear kP0 kP1 kP2 kM kS kW L0 L1 L2 H8
  obtain ⟨r0, hr0⟩ : ∃ r, fitP x1 u1 l0 = r := ⟨_, rfl⟩
  rw [hr0] at k0
  have R0 : Shy (fitP x1 u1 l0 = r0) := ⟨hr0⟩
  clear hr0
  obtain ⟨r1, hr1⟩ : ∃ r, fitP x2 u2 l1 = r := ⟨_, rfl⟩
  rw [hr1] at k1
  have R1 : Shy (fitP x2 u2 l1 = r1) := ⟨hr1⟩
  clear hr1
  obtain ⟨r2, hr2⟩ : ∃ r, fitP x3 u2 l2 = r := ⟨_, rfl⟩
  rw [hr2] at k2
  have R2 : Shy (fitP x3 u2 l2 = r2) := ⟨hr2⟩
  clear hr2
  cases r0 <;> cases r1 <;> cases r2
  all_goals
    go_wp2_with (first | (go_at_call_of 25 a0; refine k0.out.mono ?_; rintro e w' ⟨rfl, hw⟩; cases hw) | (go_at_call_of 25 a1; refine k1.out.mono ?_; rintro e w' ⟨rfl, hw⟩; cases hw) | (go_at_call_of 25 a2; refine k2.out.mono ?_; rintro e w' ⟨rfl, hw⟩; cases hw))
    go_ret
    rw [R0.out, R1.out, R2.out]
    exact ⟨rfl, HX3.out⟩

end Go.Proofs.Ytnkdbkhgfakjaaa
