/- The walk of BitsParts. -/
import Derived.Test.YtnpanmdajcbbfaaPl
namespace Go.Proofs.Ytnpanmdajcbbfaa
open Go.RowKit
set_option maxRecDepth 100000
attribute [local go_sem] not_any mf_any field_words

/- what Part tells: none and 1, or the part and 0 -/
def PartCase (n : Nat) (l : List Bool) (p t : Int) (pn : Nat) (pl : List Bool) (code : Int) : Prop :=
  ((p < 0 ∨ (0 ≤ p ∧ t < p) ∨ (0 ≤ p ∧ p ≤ t ∧ (n : Int) < t)) ∧ pn = 0 ∧ pl = [] ∧ code = 1) ∨ ∃ q r : Nat, p = q ∧ t = r ∧ q ≤ r ∧ r ≤ n ∧ pn = r - q ∧ pl = cutOut l q r ∧ code = 0

theorem partCase (n : Nat) (l : List Bool) (p t : Int) : ∃ pn pl code, PartCase n l p t pn pl code := by
  by_cases h : p < 0 ∨ (0 ≤ p ∧ t < p) ∨ (0 ≤ p ∧ p ≤ t ∧ (n : Int) < t)
  · exact ⟨0, [], 1, .inl ⟨h, rfl, rfl, rfl⟩⟩
  · exact ⟨_, _, 0, .inr ⟨p.toNat, t.toNat, by omega, by omega, by omega, by omega, rfl, rfl, rfl⟩⟩

theorem part_case (b : Nat) (w : World) (n : Nat) (a : Option Addr) (l : List Bool) (p t : Int) (pn : Nat) (pl : List Bool) (code : Int) (hc : PartCase n l p t pn pl code) (hv : Vc b w n a l) (hn : n ≤ 4194304) :
    Calls Try.prog 26 #[.agg #[.int .i64 n, .slice a (need n 64) (need n 64)], .int .i64 p, .int .i64 t] w fun e w' => ∃ a', e = .returned (.tuple #[.agg #[.int .i64 (pn : Int), .slice a' (need pn 64) (need pn 64)], .int .i64 code]) ∧ Vc w.heap.size w' pn a' pl ∧ Below w.heap.size w w' := by
  rcases hc with ⟨h, rfl, rfl, rfl⟩ | ⟨q, r, rfl, rfl, h1, h2, rfl, rfl, rfl⟩
  · exact (part_no w n a p t h).mono fun e w' ⟨he, hb⟩ => ⟨none, he, nil_at _ _, hb⟩
  · exact part_all b w n a l q r hv hn h1 h2

theorem join3 (w : World) (gs n0 n1 n2 N : Nat) (a0 a1 a2 : Option Addr) (l0 l1 l2 all : List Bool)
    (hg : w.heap[gs]? = some (.cells #[.int .i64 (n0 : Int), .slice a0 (need n0 64) (need n0 64), .int .i64 (n1 : Int), .slice a1 (need n1 64) (need n1 64), .int .i64 (n2 : Int), .slice a2 (need n2 64) (need n2 64)] 26 (0, 0)))
    (h0 : Vc 0 w n0 a0 l0) (h1 : Vc 0 w n1 a1 l1) (h2 : Vc 0 w n2 a2 l2) (hall : l0 ++ l1 ++ l2 = all) (hN : n0 + n1 + n2 = N) (hle : N ≤ 4194304) :
    Calls Try.prog 27 #[.slice (some ⟨gs, 0, none⟩) 3 3] w fun e w' => ∃ a, e = .returned (.tuple #[.agg #[.int .i64 N, .slice a (need N 64) (need N 64)], .int .i64 0]) ∧ Vc w.heap.size w' N a all ∧ Below w.heap.size w w' :=
  join_any w gs 3 3 _ all N (vs3 hg h0 h1 h2) (by omega) (by rw [← hall]; simp) (by rw [← hall, ← hN]; simp [h0.len, h1.len, h2.len]; omega) hle

/- where l[q:r] lies -/
def cutAt (a : Option Addr) (c q : Nat) : Option Addr := if c = q then a else a.map (·.add (q * 1))

theorem run_cut (w : World) (a : Option Addr) (n c q r : Nat) (h1 : q ≤ r) (h2 : r ≤ c) :
    (Instr.slice 22 (.slice a n c) (some (.int .i64 q)) (some (.int .i64 r)) none).run Try.prog w = .ok (.slice (cutAt a c q) (r - q) (c - q)) w := by
  obtain ⟨i0, hi, hz0, hz1, hz2⟩ := info_parts info4
  have a1 : (q : Int) ≤ (r : Int) := by omega
  have a2 : (r : Int) ≤ (c : Int) := by omega
  simp [Instr.slice, run_underlying Try.underlying22, Instr.sliceBounds, run_sliceBound, sizeOf, typeInfo, hi, hz1, h1, h2, cutAt]

theorem bl_cut {w : World} {n c q r : Nat} {a : Option Addr} {l : List Bool} (h : Bl w n a l) (h1 : q ≤ r) (h2 : r ≤ n) (h3 : n ≤ c) : Bl w (r - q) (cutAt a c q) (cutOut l q r) := by
  refine ⟨cutOut_length (by rw [h.len]; exact h2), fun j x hj => ?_⟩
  have hjl : j < r - q := by
    have := (List.getElem?_eq_some_iff.1 hj).1
    rwa [cutOut_length (by rw [h.len]; exact h2)] at this
  unfold cutOut at hj
  rw [List.getElem?_take_of_lt hjl, List.getElem?_drop] at hj
  obtain ⟨g, o, rfl, hc⟩ := h.at' (q + j) x hj
  refine ⟨g, o + q * 1, ?_, ?_⟩
  · unfold cutAt
    rw [if_neg (by omega), Option.map_some, addr_add]
  · rw [show o + q * 1 + j = o + (q + j) by omega]
    exact hc

set_option maxHeartbeats 16000000 in
theorem parts_any (w : World) (n m k c c' c'' : Nat) (a b d : Option Addr) (la lb lc : List Bool) (p t : Int) (pn : Nat) (pl : List Bool) (code : Int) (hcase : PartCase n la p t pn pl code)
    (hla : Bl w n a la) (hlb : Bl w m b lb) (hlc : Bl w k d lc) (hn : n ≤ 600) (hm : m ≤ 600) (hk : k ≤ 600) (hnc : n ≤ c) :
    Calls Try.prog 6 #[.slice a n c, .int .i64 p, .int .i64 t, .slice b m c', .slice d k c''] w fun e w' => e = .returned (.bool true) ∧ Below w.heap.size w w' := by
  have hA := fun w => hide1 (awake_any w)
  have hO1 := fun w h => hide1 (of_any w n c a la h (by omega))
  have hO2 := fun w h => hide1 (of_any w m c' b lb h (by omega))
  have hO3 := fun w h => hide1 (of_any w k c'' d lc h (by omega))
  have hP := fun b w (a : Option Addr) h => hide1 (part_case b w n a la p t pn pl code hcase h (by omega))
  obtain ⟨N, hNe⟩ : ∃ N, n + m + k = N := ⟨_, rfl⟩
  have hNl : N ≤ 1800 := by omega
  have hJ := fun w gs (a0 a1 a2 : Option Addr) hg h0 h1 h2 => hide1 (join3 w gs n m k N a0 a1 a2 la lb lc (la ++ lb ++ lc) hg h0 h1 h2 rfl hNe (by omega))
  have hSh := fun b w (a av : Option Addr) c h1 h2 => hide1 (shows_any b w N c a av (la ++ lb ++ lc) h1 h2 (by omega))
  have HNE : Hid (0 + n + m + k = N) := by show 0 + n + m + k = N; omega
  have HLN : Hid ((la ++ lb ++ lc).length = N) := by rw [List.length_append, List.length_append, hla.len, hlb.len, hlc.len]; exact hNe
  clear hNe
  have HA := hide1 hla
  have HB := hide1 hlb
  have HC := hide1 hlc
  have HCA := hide1 hcase
  have h1 : ¬ (600 : Int) < (n : Int) := by omega
  have h2 : ¬ (600 : Int) < (m : Int) := by omega
  have h3 : ¬ (600 : Int) < (k : Int) := by omega
  have HNC := hide1 hnc
  clear hla hlb hlc hcase hnc
  go_enter Try.func6, Try.ntmps6
  go_wp2_with fail
  refine (hO1 _ HA.out).out.mono ?_
  rintro e w1 ⟨ax, rfl, hv, hb⟩
  have S1 := hide1 (Abs.put (ts := []) ⟨by simp, hb⟩ hv)
  clear hv hb
  go_wp2_with fail
  refine (hP _ _ _ (S1.out.vc (t := w1.heap.size) (a := ax) (by simp))).out.mono ?_
  rintro e w2 ⟨ap, rfl, hv, hb⟩
  have S2 := hide1 ((S1.out.next hb).put hv)
  clear hv hb S1
  go_wp2_with fail
  refine (hO2 _ (HB.out.below S2.out.bl (Nat.le_refl _))).out.mono ?_
  rintro e w3 ⟨ay, rfl, hv, hb⟩
  have S3 := hide1 ((S2.out.next hb).put hv)
  clear hv hb S2
  go_wp2_with fail
  refine (hO3 _ (HC.out.below S3.out.bl (Nat.le_refl _))).out.mono ?_
  rintro e w4 ⟨az, rfl, hv, hb⟩
  have S4 := hide1 ((S3.out.next hb).put hv)
  clear hv hb S3
  obtain ⟨c0, c1, c4⟩ := S4.out.box (t := w1.heap.size) (n := n) (a := ax) (l := la) (by simp)
  obtain ⟨d0, d1, d4⟩ := S4.out.box (t := w3.heap.size) (n := m) (a := ay) (l := lb) (by simp)
  obtain ⟨e0, e1, e4⟩ := S4.out.box (t := w4.heap.size) (n := k) (a := az) (l := lc) (by simp)
  obtain ⟨W4, hW4⟩ : ∃ W, w4.alloc (.cells #[.int .i64 (k : Int), .slice az (need k 64) (need k 64)] 26) = W := ⟨_, rfl⟩
  rw [hW4] at S4 c0 c1 c4 d0 d1 d4 e0 e1 e4
  go_wp2_with fail
  have S4' := hide1 (S4.out.next (below_alloc1 W4 (.cells #[.int .i64 (n : Int), .slice ax (need n 64) (need n 64), .int .i64 (m : Int), .slice ay (need m 64) (need m 64), .int .i64 (k : Int), .slice az (need k 64) (need k 64)] 26)))
  refine (hJ _ _ _ _ _ (heap_alloc_new _ _) (S4'.out.vc (t := w1.heap.size) (n := n) (a := ax) (l := la) (by simp)) (S4'.out.vc (t := w3.heap.size) (n := m) (a := ay) (l := lb) (by simp)) (S4'.out.vc (t := w4.heap.size) (n := k) (a := az) (l := lc) (by simp))).out.mono ?_
  rintro e w5 ⟨aj, rfl, hv, hb⟩
  have S5' := hide1 (S4'.out.next hb)
  have S5 := hide1 (S5'.out.put hv)
  clear hv hb S4 S4' c0 c1 c4 d0 d1 d4 e0 e1 e4 hW4
  obtain ⟨W5, hW5⟩ : ∃ W, w5.alloc (.cells #[.int .i64 (N : Int), .slice aj (need N 64) (need N 64)] 26) = W := ⟨_, rfl⟩
  rw [hW5] at S5
  clear S5'
  have R0 : Hid ((W5.alloc (.cells #[] 4)).ownsRow W5.heap.size 4 1 (.slice (some ⟨W5.heap.size, 0, none⟩) 0 0) 0 (bools [])) := World.ownsRow_made W5 #[] 0 (Nat.le_refl _) (by unfold maxLen; omega) rfl
  have G0 := hide1 (below_alloc1 W5 (.cells #[] 4))
  have A0 := hide1 (HA.out.below (S5.out.next G0.out).bl (Nat.le_refl _))
  go_wp2_with (at_builtin; go_must (first
    | (refine wpList_append_bl rfl _ _ rfl W5.heap.size _ 0 [] rfl R0.out a n c la rfl A0.out (by omega) G0.out.size ?_; intro v1 u1 ro1 gr1; have R1 := hide1 ro1; have G1 := hide1 (G0.out.grown gr1 G0.out.size (fun j hj => (R0.out.lt j hj).1)); have A1 := hide1 (HB.out.below (S5.out.next G1.out).bl (Nat.le_refl _)); clear ro1 gr1)
    | (refine wpList_append_bl rfl _ _ rfl W5.heap.size v1 _ _ rfl R1.out b m c' lb rfl A1.out (by omega) G1.out.size ?_; intro v2 u2 ro2 gr2; have R2 := hide1 ro2; have G2 := hide1 (G1.out.grown gr2 G1.out.size (fun j hj => (R1.out.lt j hj).1)); have A2 := hide1 (HC.out.below (S5.out.next G2.out).bl (Nat.le_refl _)); clear ro2 gr2)
    | (refine wpList_append_bl rfl _ _ rfl W5.heap.size v2 _ _ rfl R2.out d k c'' lc rfl A2.out (by omega) G2.out.size ?_; intro v3 u3 ro3 gr3; rw [HNE.out] at ro3; obtain ⟨r3, q3, rfl⟩ := row_form ro3; have R3 := hide1 ro3; have G3 := hide1 (G2.out.grown gr3 G2.out.size (fun j hj => (R2.out.lt j hj).1)); have S6 := hide1 (S5.out.next G3.out); obtain ⟨c0, c1, c4⟩ := S6.out.box (t := w5.heap.size) (n := N) (a := aj) (l := la ++ lb ++ lc) (by simp); clear ro3 gr3)))
  refine (hSh _ _ _ _ _ (S6.out.vc (t := w5.heap.size) (n := N) (a := aj) (l := la ++ lb ++ lc) (by simp)) (own_bl R3.out HLN.out)).out.mono ?_
  rintro e w7 ⟨rfl, hb⟩
  have S7 := hide1 (S6.out.next hb)
  clear hb c0 c1 c4 S6 R0 R1 R2 R3 G0 G1 G2 G3 A0 A1 A2 S5 hSh hJ hP hO1 hO2 hO3 HNE HLN
  rcases HCA.out with ⟨hbad, rfl, rfl, rfl⟩ | ⟨q, r, rfl, rfl, hqr, hrn, hpn, hpl, rfl⟩
  · have hLe := fun w => hide1 (len_bl 0 (.slice ap 0 0) w rfl)
    obtain ⟨c0, c1, c4⟩ := S7.out.box (t := w2.heap.size) (n := 0) (a := ap) (l := []) (by simp)
    clear HCA
    rcases hbad with hb1 | ⟨hb1, hb2⟩ | ⟨hb1, hb2, hb3⟩
    all_goals
      go_wp2_with fail
      refine (hLe _).out.mono ?_
      rintro e w8 ⟨rfl, hb⟩
      have S8 := hide1 (S7.out.next hb)
      clear hb
      go_wp2_with fail
      refine (hA _).out.mono ?_
      rintro e w9 ⟨rfl, hb⟩
      go_wp2
      go_ret
      exact ⟨rfl, (S8.out.next hb).bl⟩
  · clear HCA
    obtain ⟨nr, hnr⟩ : ∃ nr, n - r = nr := ⟨_, rfl⟩
    have hPa := fun b w (a : Option Addr) h => hide1 (part_all b w n a la 0 q h (by omega) (by omega) (by omega))
    have hPb := fun b w (a : Option Addr) h => hide1 (part_all b w n a la r n h (by omega) hrn (Nat.le_refl _))
    simp only [hnr] at hPb
    simp only [Nat.sub_zero] at hPa
    have hJ2 := fun w gs (a0 a1 a2 : Option Addr) hg h0 h1 h2 => hide1 (join3 w gs q pn nr n a0 a1 a2 (cutOut la 0 q) pl (cutOut la r n) la hg h0 h1 h2 (by rw [hpl, ← HA.out.len]; exact cut_all la hqr (by rw [HA.out.len]; exact hrn)) (by omega) (by omega))
    have g1 : ¬ (q : Int) < 0 := by omega
    have g2 : ¬ (r : Int) < (q : Int) := by omega
    have g3 : ¬ (n : Int) < (r : Int) := by omega
    have HCut := hide1 (bl_cut (q := q) (r := r) HA.out hqr hrn HNC.out)
    have hcut := fun w => run_cut w a n c q r hqr (Nat.le_trans hrn HNC.out)
    rw [← hpn, ← hpl] at HCut
    rw [← hpn] at hcut
    have HPN := hide1 (And.intro hpn hpl)
    have HQR := hide1 (And.intro hqr hrn)
    generalize cutAt a c q = ac at HCut hcut
    obtain ⟨c0, c1, c4⟩ := S7.out.box (t := w1.heap.size) (n := n) (a := ax) (l := la) (by simp)
    clear hpn hpl hqr hrn hnr
    go_wp2_with fail
    refine (hPa _ _ _ (S7.out.vc (t := w1.heap.size) (n := n) (a := ax) (l := la) (by simp))).out.mono ?_
    rintro e w8 ⟨aa, rfl, hv, hb⟩
    have S8 := hide1 ((S7.out.next hb).put hv)
    clear hv hb S7 c0 c1 c4
    obtain ⟨c0, c1, c4⟩ := S8.out.box (t := w1.heap.size) (n := n) (a := ax) (l := la) (by simp)
    go_wp2_with fail
    refine (hPb _ _ _ (S8.out.vc (t := w1.heap.size) (n := n) (a := ax) (l := la) (by simp))).out.mono ?_
    rintro e w9 ⟨ab, rfl, hv, hb⟩
    have S9 := hide1 ((S8.out.next hb).put hv)
    clear hv hb S8 c0 c1 c4
    obtain ⟨c0, c1, c4⟩ := S9.out.box (t := w8.heap.size) (n := q) (a := aa) (l := cutOut la 0 q) (by simp)
    obtain ⟨d0, d1, d4⟩ := S9.out.box (t := w2.heap.size) (n := pn) (a := ap) (l := pl) (by simp)
    obtain ⟨e0, e1, e4⟩ := S9.out.box (t := w9.heap.size) (n := nr) (a := ab) (l := cutOut la r n) (by simp)
    obtain ⟨W9, hW9⟩ : ∃ W, w9.alloc (.cells #[.int .i64 (nr : Int), .slice ab (need nr 64) (need nr 64)] 26) = W := ⟨_, rfl⟩
    rw [hW9] at S9 c0 c1 c4 d0 d1 d4 e0 e1 e4
    go_wp2_with fail
    have S9' := hide1 (S9.out.next (below_alloc1 W9 (.cells #[.int .i64 (q : Int), .slice aa (need q 64) (need q 64), .int .i64 (pn : Int), .slice ap (need pn 64) (need pn 64), .int .i64 (nr : Int), .slice ab (need nr 64) (need nr 64)] 26)))
    refine (hJ2 _ _ _ _ _ (heap_alloc_new _ _) (S9'.out.vc (t := w8.heap.size) (n := q) (a := aa) (l := cutOut la 0 q) (by simp)) (S9'.out.vc (t := w2.heap.size) (n := pn) (a := ap) (l := pl) (by simp)) (S9'.out.vc (t := w9.heap.size) (n := nr) (a := ab) (l := cutOut la r n) (by simp))).out.mono ?_
    rintro e w10 ⟨ak, rfl, hv, hb⟩
    have S10 := hide1 ((S9'.out.next hb).put hv)
    clear hv hb S9 S9' c0 c1 c4 d0 d1 d4 e0 e1 e4 hW9
    obtain ⟨W, hW⟩ : ∃ W, w10.alloc (.cells #[.int .i64 (n : Int), .slice ak (need n 64) (need n 64)] 26) = W := ⟨_, rfl⟩
    rw [hW] at S10
    go_wp2_with fail
    have hS : ∀ p : Bw W, Hid (Calls Try.prog 11 #[.agg #[.int .i64 (pn : Int), .slice ap (need pn 64) (need pn 64)], .slice ac pn (c - q)] p.w fun e w' => e = .returned (.bool true) ∧ Below p.w.heap.size p.w w') := fun p => by
      have hle : pn ≤ 4194304 := by have := HPN.out.1; have := HQR.out; omega
      exact shows_any 0 p.w pn (c - q) ac ap pl ((S10.out.next p.h).vc (t := w2.heap.size) (by simp)) (HCut.out.below (S10.out.next p.h).bl (Nat.le_refl _)) hle
    have hE : ∀ p : Bw W, Hid (Calls Try.prog 23 #[.agg #[.int .i64 (n : Int), .slice ak (need n 64) (need n 64)], .agg #[.int .i64 (n : Int), .slice ax (need n 64) (need n 64)]] p.w fun e w' => e = .returned (.bool true) ∧ Below p.w.heap.size p.w w') := fun p => by
      have h := equal_any p.w n n 0 0 ak ax la la ((S10.out.next p.h).vc (t := w10.heap.size) (n := n) (a := ak) (l := la) (by simp)) ((S10.out.next p.h).vc (t := w1.heap.size) (n := n) (a := ax) (l := la) (by simp)) (by omega)
      exact hide1 (by simpa using h)
    have hAw := fun p : Bw W => hA p.w
    have hne : Nonempty (Bw W) := ⟨⟨W, Below.refl _ _⟩⟩
    obtain ⟨x0, x1, _⟩ := S10.out.box (t := w1.heap.size) (n := n) (a := ax) (l := la) (by simp)
    have x0 := bw_cell x0
    have x1 := bw_cell x1
    obtain ⟨p0, p1, _⟩ := S10.out.box (t := w2.heap.size) (n := pn) (a := ap) (l := pl) (by simp)
    have p0 := bw_cell p0
    have p1 := bw_cell p1
    obtain ⟨k0, k1, _⟩ := S10.out.box (t := w10.heap.size) (n := n) (a := ak) (l := la) (by simp)
    have k0 := bw_cell k0
    have k1 := bw_cell k1
    have HSB := hide1 S10.out.bl
    have mixed := mixed
    clear hW hPa hPb hJ2 hA S10 HCut HPN HQR
    refine wp_region_quiet_bw (by assumption) (by kernel_rfl) ?_
    repeat (go_big_quiet_step (first | (go_at_call 11; exact bw_of (hS _).out) | (go_at_call 23; exact bw_of (hE _).out) | (go_at_call 9; exact bw_of (hAw _).out)))
    refine wpQuiet_nil ?_
    intro w11 hw11
    obtain ⟨p, rfl⟩ := hw11
    go_wp2
    go_ret
    exact ⟨rfl, HSB.out.trans (p.h.mono HSB.out.size)⟩

end Go.Proofs.Ytnpanmdajcbbfaa
