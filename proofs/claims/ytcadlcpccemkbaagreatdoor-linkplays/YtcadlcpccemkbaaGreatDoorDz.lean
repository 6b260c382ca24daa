/- The document's In: Take, where all is well. -/
import Derived.Test.YtcadlcpccemkbaaGreatDoorMDuDnaDv
namespace Go.Proofs.YtcadlcpccemkbaaGreatDoor
open Go.RowKit
set_option maxRecDepth 100000
attribute [local go_sem] not_any

def rst (dn : Bool) (q : Nat) (b : ByteArray) (r : List (Nat × ByteArray)) : List (Nat × ByteArray) := if dn then r else ins q b r
theorem rst_done (q : Nat) (b : ByteArray) (p : Nat × ByteArray) (r A L : List (Nat × ByteArray)) (h : A ++ rst true q b (p :: r) = L) : (A ++ [p]) ++ rst true q b r = L := by
  rw [← h]; simp [rst]
theorem rst_over (q : Nat) (b : ByteArray) (p : Nat × ByteArray) (r A L : List (Nat × ByteArray)) (hp : q < p.1) (h : A ++ rst false q b (p :: r) = L) : (A ++ [(q, b)] ++ [p]) ++ rst true q b r = L := by
  rw [← h]; simp [rst, ins, hp]
theorem rst_below (q : Nat) (b : ByteArray) (p : Nat × ByteArray) (r A L : List (Nat × ByteArray)) (hp : ¬ q < p.1) (h : A ++ rst false q b (p :: r) = L) : (A ++ [p]) ++ rst false q b r = L := by
  rw [← h]; simp [rst, ins, hp]
theorem Rnl.cut2 {w : World} {g o n c : Nat} {p : Nat × ByteArray} {r : List (Nat × ByteArray)} (h : Rnl w (.slice (some ⟨g, o, none⟩) n c) (p :: r)) (hc : r.length + 1 ≤ c) : Rnl w (.slice (if c = 1 then some ⟨g, o, none⟩ else some ⟨g, o + 2, none⟩) r.length (c - 1)) r := by
  by_cases h1 : c = 1
  · obtain rfl : r = [] := List.eq_nil_of_length_eq_zero (by omega)
    exact ⟨_, _, rfl, fun j hj => by simp at hj⟩
  · rw [if_neg h1]
    have h9 := h
    obtain ⟨_, _, e, _⟩ := h9
    cases e
    have := Rnl.cut h
    simpa using this
theorem own_cut (g o n c : Nat) : (Value.slice (if c = 1 then some ⟨g, o, none⟩ else some ⟨g, o + 2, none⟩) n (c - 1)).ownBlock = some g := by
  split <;> rfl
/- the row of a list lies from a block on -/
theorem Nls.own {T B : Nat} {w : World} {v : Value} {l : List (Nat × ByteArray)} (h : Nls T B w v l) : ∀ g, v.ownBlock = some g → B ≤ g := fun _ hg => (h.lt hg).1

set_option maxHeartbeats 8000000 in
theorem rtake_ok {a q : Nat} {u : Value} {l : List (Nat × ByteArray)} {b : ByteArray} {w : World} (h : Rnl w u l) (hd : Hd a l) (hc : chkC a (lk l) q = 0) (ha : a + 100 < 4294967296) :
    Calls Tryz.prog 61 #[.agg #[.int .i64 ((a + 1 : Nat) : Int), u], .int .i64 (q : Int), .string b] w fun e w' => ∃ u' v, e = .returned (.tuple #[.agg #[.int .i64 ((a + (stO (a + 1) (ins q b l)).length + 1 : Nat) : Int), u'], v, .int .i64 0]) ∧ Rnl w' u' (stR (a + 1) (ins q b l)) ∧ Lst w.heap.size w' v (stO (a + 1) (ins q b l)) ∧ Below w.heap.size w w' ∧ ∀ g, u'.ownBlock = some g → w.heap.size ≤ g := by
  obtain ⟨h1, h2, h3⟩ := chk_ok hc
  have hqq : (q : Int) ≤ 4294967295 := by omega
  have HNE := hide1 h3
  clear h3 hc
  obtain ⟨L, hL⟩ : ∃ L, ins q b l = L := ⟨_, rfl⟩
  have HLL := hide1 hL
  rw [hL]
  clear hL
  have hU := fun w' (hb : Below w.heap.size w w') => h.below hb (Nat.le_refl _)
  have HU := hide1 hU
  have hfu := h
  obtain ⟨ua, uc, rfl, _⟩ := h
  obtain ⟨n, hn⟩ : ∃ n, l.length = n := ⟨_, rfl⟩
  have HN := hide1 hn
  have hn15 : n ≤ 15 := by have := hd.len; omega
  rw [hn] at HU ⊢
  obtain ⟨A, hA⟩ : ∃ A, a + 1 = A := ⟨_, rfl⟩
  have HA := hide1 hA
  rw [hA]
  have g1 : ¬ (q : Int) < (A : Int) := by omega
  have g2 : ¬ (16 : Int) ≤ (q : Int) - (A : Int) := by omega
  have HD := hide1 hd
  clear hU hn hd hfu hA
  go_enter Tryz.func61, Tryz.ntmps61
  go_wp2_with fail
  have h2 := two_new w (.cells #[.int .i64 (A : Int), .slice ua n uc] 37) (.cells #[.int .i64 0, .slice none 0 0] 37)
  have hB := below2 (w := w) (.cells #[.int .i64 (A : Int), .slice ua n uc] 37) (.cells #[.int .i64 0, .slice none 0 0] 37)
  have hS2 : ((w.alloc (.cells #[.int .i64 (A : Int), .slice ua n uc] 37)).alloc (.cells #[.int .i64 0, .slice none 0 0] 37)).heap.size = w.heap.size + 2 := by simp
  have H2 := hide1 h2
  have HB := hide1 hB
  have HS2 := hide1 hS2
  clear h2 hB hS2
  generalize (w.alloc _).alloc _ = W1 at H2 HB HS2 ⊢
  obtain ⟨b0, hb0⟩ : ∃ b0, w.heap.size = b0 := ⟨_, rfl⟩
  obtain ⟨b1, hb1⟩ : ∃ b1, w.heap.size + 1 = b1 := ⟨_, rfl⟩
  have HX : Hid (w.heap.size = b0 ∧ w.heap.size + 1 = b1 ∧ W1.heap.size = w.heap.size + 2) := ⟨hb0, hb1, HS2.out⟩
  rw [hb1, hb0] at H2
  try rw [hb1]
  try rw [hb0]
  have hb3 : b0 + 1 = b1 := by omega
  try rw [hb3]
  clear hb0 hb1 HS2 hb3
  go_loopw [9, 10, 11] (fun v dv i wr => ∃ (j : Nat) (P : List (Nat × ByteArray)) (dn : Bool) (z : Value), j ≤ n ∧ i = .int .i64 (j : Int) ∧ dv = .bool dn ∧ v = z ∧ Nls 175 W1.heap.size wr z P ∧ Below W1.heap.size W1 wr ∧ P ++ rst dn q b (l.drop j) = L) (fun _ _ i _ => n - (intOf i).toNat)
  case atStart => exact ⟨0, [], false, _, Nat.zero_le _, rfl, rfl, rfl, Nls.nil _ _ _, Below.refl _ _, HLL.out⟩
  case round =>
    obtain ⟨j, P, dn, v, hj, rfl, rfl, hv, hL, hBr, hP⟩ := hrel
    obtain rfl := hv.symm
    have HL := hide1 hL
    have HBr := hide1 hBr
    have HP := hide1 hP
    have HPL : Hid (P.length ≤ 16) := by
      unfold Hid
      have e1 := congrArg List.length hP
      rw [List.length_append, ← HLL.out, ins_length] at e1
      have := HD.out.len
      omega
    clear hL hBr hv hP
    by_cases hjn : j < n
    · have gin : (j : Int) < (n : Int) := by omega
      obtain ⟨ua', uc', e1, h1⟩ := HU.out wr (HB.out.trans (HBr.out.mono (by have := HX.out; omega)))
      rw [HN.out] at e1
      cases e1
      have hjA : j < l.length := by have := HN.out; omega
      obtain ⟨gu, ou, rfl, k1, k2⟩ := h1 j hjA
      obtain ⟨m1, hm1⟩ : ∃ m, ou + j * 2 = m := ⟨_, rfl⟩
      rw [hm1] at k1 k2
      obtain ⟨d0, d1, _, _, _⟩ := box2 ((HBr.out.block b0 (lt_heap H2.out.1)).trans H2.out.1)
      obtain ⟨f0, f1, z0, z1, _⟩ := box2 ((HBr.out.block b1 (lt_heap H2.out.2)).trans H2.out.2)
      have hdp := drop_pair hjA
      have hkq := HNE.out _ (show (kAt l j, sAt l j) ∈ l by rw [at_pair hjA]; exact List.getElem_mem hjA)
      simp only at hkq
      have hk32 : kAt l j < 4294967296 := by
        have := HD.out.upto _ (show (kAt l j, sAt l j) ∈ l by rw [at_pair hjA]; exact List.getElem_mem hjA)
        simp only at this
        omega
      rw [hdp] at HP
      generalize kAt l j = k at *
      generalize sAt l j = t at *
      have gne : ¬ (k : Int) = (q : Int) := by omega
      have HLE : Hid (P.length ≤ 1000000 ∧ W1.heap.size ≤ (wr.alloc (.cells #[.int .u32 (k : Int), .string t] 175)).heap.size) := by
        have h3 := HBr.out.size
        have h4 := HPL.out
        refine ⟨by omega, ?_⟩
        simp
        omega
      have HGU : Hid (gu < w.heap.size) := by
        obtain ⟨ux, cx, ex, hx⟩ := HU.out w (Below.refl _ _)
        rw [HN.out] at ex
        cases ex
        obtain ⟨g9, o9, e9, h9, _⟩ := hx j hjA
        cases e9
        exact World.block_lt_of_cell? w _ h9
      clear h1 hdp
      cases dn with
      | true =>
        have LC := hide1 (HL.out.below (below1 (.cells #[.int .u32 (k : Int), .string t] 175)) (Nat.le_refl _))
        have RC := hide1 (Rnl.one wr 175 k t)
        go_wp2_with (at_builtin; go_must (refine wpList_append_nls ntyR rfl _ _ rfl rfl rfl LC.out RC.out HLE.out.1 HLE.out.2 ?_); intro v2 WE ho hg hf; have HO := hide1 ho; have HG := hide1 hg; clear ho hg hf)
        go_roundw
        case rel => exact ⟨j + 1, P ++ [(k, t)], true, v2, by omega, by go_num, rfl, rfl, HO.out, (HBr.out.alloc HBr.out.size _).grown HG.out HLE.out.2 (fun k hk => (HL.out.lt hk).1), rst_done _ _ _ _ _ _ HP.out⟩
        case measure => simp [intOf]; omega
      | false =>
        by_cases hlt : k < q
        · have ggt : ¬ (q : Int) < (k : Int) := by omega
          have LC := hide1 (HL.out.below (below1 (.cells #[.int .u32 (k : Int), .string t] 175)) (Nat.le_refl _))
          have RC := hide1 (Rnl.one wr 175 k t)
          go_wp2_with (at_builtin; go_must (refine wpList_append_nls ntyR rfl _ _ rfl rfl rfl LC.out RC.out HLE.out.1 HLE.out.2 ?_); intro v2 WE ho hg hf; have HO := hide1 ho; have HG := hide1 hg; clear ho hg hf)
          go_roundw
          case rel => exact ⟨j + 1, P ++ [(k, t)], false, v2, by omega, by go_num, rfl, rfl, HO.out, (HBr.out.alloc HBr.out.size _).grown HG.out HLE.out.2 (fun k hk => (HL.out.lt hk).1), rst_below _ _ _ _ _ _ (by simp; omega) HP.out⟩
          case measure => simp [intOf]; omega
        · have ggt : (q : Int) < (k : Int) := by omega
          have LC := hide1 (HL.out.below (below1 (.cells #[.int .u32 (q : Int), .string b] 175)) (Nat.le_refl _))
          have RC := hide1 (Rnl.one wr 175 q b)
          have HLQ : Hid (P.length ≤ 1000000 ∧ W1.heap.size ≤ (wr.alloc (.cells #[.int .u32 (q : Int), .string b] 175)).heap.size) := by
            refine ⟨HLE.out.1, ?_⟩
            have h3 := HBr.out.size
            simp
            omega
          have HNX : Hid (∀ WE : World, (wr.alloc (.cells #[.int .u32 (q : Int), .string b] 175)).grownBy WE v.ownBlock → Below W1.heap.size W1 WE ∧ WE.cell? ⟨b0, 1, none⟩ = some (.slice (some ⟨gu, ou, none⟩) n uc) ∧ WE.cell? ⟨gu, m1, none⟩ = some (.int .u32 (k : Int)) ∧ WE.cell? ⟨gu, m1 + 1, none⟩ = some (.string t)) := fun WE hg => by
            have x0 : Below W1.heap.size W1 WE := (HBr.out.alloc HBr.out.size _).grown hg HLQ.out.2 (fun k hk => (HL.out.lt hk).1)
            have x1 : Kp (fun g => v.ownBlock = some g) wr WE := (Kp.ofBelow (below1 _)).trans (Kp.ofGrown hg)
            have hgu : gu < w.heap.size := HGU.out
            have x2 : WE.heap[gu]? = wr.heap[gu]? := x1.block gu (World.block_lt_of_cell? wr _ k1) (fun e => by
              have h8 := (HL.out.lt e).1
              have h9 := HX.out
              omega)
            exact ⟨x0, (box2 ((x0.block b0 (lt_heap H2.out.1)).trans H2.out.1)).2.1, (World.cell?_of_block (a := ⟨gu, _, none⟩) x2).trans k1, (World.cell?_of_block (a := ⟨gu, _, none⟩) x2).trans k2⟩
          go_wp2_with (first | (at_builtin; refine wpList_append_nls ntyR rfl _ _ rfl rfl rfl LC.out RC.out HLQ.out.1 HLQ.out.2 ?_; intro v2 WE ho hg hf; obtain ⟨x0, x1, x2, x3⟩ := HNX.out _ hg; have HO1 := hide1 ho; have HB1 := hide1 x0; have LC2 := hide1 (ho.below (below1 (.cells #[.int .u32 (k : Int), .string t] 175)) (Nat.le_refl _)); have RC2 := hide1 (Rnl.one WE 175 k t); have HL2 : Hid ((P ++ [(q, b)]).length ≤ 1000000 ∧ W1.heap.size ≤ (WE.alloc (.cells #[.int .u32 (k : Int), .string t] 175)).heap.size) := (by have h3 := HB1.out.size; have h4 := HPL.out; exact ⟨by simp; omega, by simp; omega⟩); clear ho hg hf x0) | (at_builtin; refine wpList_append_nls ntyR rfl _ _ rfl rfl rfl LC2.out RC2.out HL2.out.1 HL2.out.2 ?_; intro v3 WF ho hg hf; have HO := hide1 ho; have HG := hide1 hg; clear ho hg hf))
          go_roundw
          case rel => exact ⟨j + 1, P ++ [(q, b)] ++ [(k, t)], true, v3, by omega, by go_num, rfl, rfl, HO.out, (HB1.out.alloc HB1.out.size _).grown HG.out HL2.out.2 (fun k hk => (HO1.out.lt hk).1), rst_over _ _ _ _ _ _ (by simp; omega) HP.out⟩
          case measure => simp [intOf]; omega
    · have gin : ¬ (j : Int) < (n : Int) := by omega
      have hdn : l.drop j = [] := List.drop_of_length_le (by have := HN.out; omega)
      rw [hdn] at HP
      obtain ⟨d0, d1, _, _, _⟩ := box2 ((HBr.out.block b0 (lt_heap H2.out.1)).trans H2.out.1)
      cases dn with
      | true =>
        obtain ⟨W2, hw2⟩ : ∃ W2, W2 = wr := ⟨_, rfl⟩
        subst hw2
        have B2 := HBr
        have L2 : Hid (Nls 175 W1.heap.size W2 v L) := by
          have e := HP.out
          rw [rst, if_pos rfl, List.append_nil] at e
          rw [← e]
          exact HL.out
        have OWL : Hid (∀ g, v.ownBlock = some g → g < W2.heap.size) := fun g hg => (L2.out.lt hg).2
        clear HBr HP HPL HL hdn hj hjn
        have HS9 : Hid (W1.heap.size ≤ W2.heap.size) := B2.out.size
        have CP := hide1 L2.out.cap
        have OW := hide1 L2.out.own
        have RD2 := hide1 L2.out.rd
        have HUP : Hid (∀ x ∈ L, x.1 < 4294967296) := fun x hx => by
          rw [← HLL.out] at hx
          have := upto_ins (s := b) HD.out.upto h2 x hx
          omega
        have hLN : Hid (L.length ≤ 16) := by unfold Hid; have := HD.out.len; rw [← HLL.out, ins_length]; omega
        obtain ⟨za, zc, rfl⟩ := L2.out.form
        obtain ⟨d0, d1, _, _, _⟩ := box2 ((B2.out.block b0 (lt_heap H2.out.1)).trans H2.out.1)
        clear L2
        go_wp2_with fail
        go_loopw [9, 12, 13] (fun lv ov nv wr => ∃ (r : List (Nat × ByteArray)) (o : List ByteArray) (n0 : Nat) (za : Option Addr) (zc : Nat) (zo : Value), lv = .slice za r.length zc ∧ ov = zo ∧ nv = .int .i64 (n0 : Int) ∧ Rnl W2 (.slice za r.length zc) r ∧ r.length ≤ zc ∧ (∀ g, (Value.slice za r.length zc).ownBlock = some g → W1.heap.size ≤ g ∧ g < W2.heap.size) ∧ Lst W2.heap.size wr zo o ∧ Below W2.heap.size W2 wr ∧ n0 = A + o.length ∧ stO A L = o ++ stO n0 r ∧ stR A L = stR n0 r ∧ r.length + o.length ≤ 16 ∧ (∀ x ∈ r, x.1 < 4294967296)) (fun lv _ _ _ => lenOf lv)
        case atStart => exact ⟨L, [], A, za, zc, _, rfl, rfl, rfl, RD2.out, CP.out, fun g hg => ⟨OW.out g hg, OWL.out g hg⟩, Lst.nil _ _, Below.refl _ _, rfl, rfl, rfl, by have := hLN.out; simp; omega, HUP.out⟩
        case round =>
          obtain ⟨r, o, n0, za, zc, zo, rfl, hzo, rfl, hRn, hcap, hown, hLo, hBw, hn0, hO, hRr, hle, hup⟩ := hrel
          obtain rfl := hzo.symm
          have HRn := hide1 hRn
          have HOW := hide1 hown
          have HLo := hide1 hLo
          have HBw := hide1 hBw
          have HE := hide1 (And.intro hn0 (And.intro hO hRr))
          have HLE := hide1 hle
          have HUR := hide1 hup
          have hn0b : n0 ≤ 4294967300 := by have := HA.out; omega
          have RNw := hRn.below hBw (Nat.le_refl _)
          have HBa : Hid (Below W1.heap.size W1 wr) := B2.out.trans (hBw.mono HS9.out)
          obtain ⟨f0, f1, z0, z1, _⟩ := box2 ((HBa.out.block b1 (lt_heap H2.out.2)).trans H2.out.2)
          clear hRn hown hLo hBw hn0 hO hRr hzo hle hup
          have FIN : Hid (stO n0 r = [] → stR n0 r = r → ∃ u' v, Ending.returned (.tuple #[.agg #[.int .i64 (n0 : Int), .slice za r.length zc], zo, .int .i64 0]) = .returned (.tuple #[.agg #[.int .i64 ((a + (stO A L).length + 1 : Nat) : Int), u'], v, .int .i64 0]) ∧ Rnl ((wr.setCell ⟨b1, 0, none⟩ (.int .i64 (n0 : Int))).setCell ⟨b1, 1, none⟩ (.slice za r.length zc)) u' (stR A L) ∧ Lst w.heap.size ((wr.setCell ⟨b1, 0, none⟩ (.int .i64 (n0 : Int))).setCell ⟨b1, 1, none⟩ (.slice za r.length zc)) v (stO A L) ∧ Below w.heap.size w ((wr.setCell ⟨b1, 0, none⟩ (.int .i64 (n0 : Int))).setCell ⟨b1, 1, none⟩ (.slice za r.length zc)) ∧ ∀ g, u'.ownBlock = some g → w.heap.size ≤ g) := fun e1 e2 => by
            obtain ⟨x1, x2, x3⟩ := HE.out
            obtain ⟨y1, y2, y3⟩ := HX.out
            have hAa := HA.out
            have hk2 : Kp (fun g => g = b1) wr ((wr.setCell ⟨b1, 0, none⟩ (.int .i64 (n0 : Int))).setCell ⟨b1, 1, none⟩ (.slice za r.length zc)) := (Kp.setCell (F := fun g => g = b1) _ b1 0 _ rfl).trans (Kp.setCell (F := fun g => g = b1) _ b1 1 _ rfl)
            refine ⟨.slice za r.length zc, zo, ?_, ?_, ?_, ?_, ?_⟩
            · rw [x2, e1, List.append_nil, show a + o.length + 1 = n0 by omega]
            · rw [x3, e2]
              refine (HRn.out.below HBw.out (Nat.le_refl _)).kp hk2 fun g hg e => ?_
              have := (HOW.out g hg).1
              omega
            · rw [x2, e1, List.append_nil]
              refine (HLo.out.kp hk2 fun g hg e => ?_).mono (by have := HS9.out; omega)
              have := (HLo.out.lt hg).1
              have := HS9.out
              omega
            · exact below_set2 (HB.out.trans (HBa.out.mono (by omega))) (by omega)
            · intro g hg
              have := (HOW.out g hg).1
              omega
          cases r with
          | nil =>
            have FN := hide1 (FIN.out rfl rfl)
            have hbx := (HBa.out.block b1 (lt_heap H2.out.2)).trans H2.out.2
            have HBX := hide1 hbx
            clear FIN RNw hbx
            go_wp2
            exact ret_i3 Tryz.results61 b1 _ _ _ _ rfl rfl rfl (set_box2 HBX.out) rfl FN.out
          | cons p r' =>
            obtain ⟨gz, oz, rfl, _, c0, c1⟩ := RNw.head
            clear RNw
            obtain ⟨m, hm⟩ : ∃ m, (p :: r').length = m := ⟨_, rfl⟩
            have HM := hide1 hm
            have hp32 := HUR.out p (by simp)
            have gm : (0 : Int) < (m : Int) := by
              have : 0 < (p :: r').length := by simp
              omega
            rw [hm] at hcap FIN HRn HOW ⊢
            have HCP := hide1 hcap
            by_cases hk : p.1 = n0
            · have HKK := hide1 hk
              rw [hk] at c0
              have RC := hide1 (Rdl.one wr p.2)
              have LC := hide1 (HLo.out.below (below1 (.cells #[.string p.2] 9)) (Nat.le_refl _))
              have HQ : Hid (o.length + [p.2].length ≤ 1000000 ∧ W2.heap.size ≤ (wr.alloc (.cells #[.string p.2] 9)).heap.size) := by
                have h3 := HBw.out.size
                have h4 := HLE.out
                refine ⟨by simp; omega, ?_⟩
                simp
                omega
              have g1' : (1 : Int) ≤ (m : Int) := by omega
              clear FIN hm
              go_wp2_with (at_builtin; go_must (refine wpList_append_lst (C := [p.2]) rfl _ _ rfl rfl rfl LC.out RC.out HQ.out.1 HQ.out.2 ?_); intro v2 WE ho hg hf; have HO := hide1 ho; have HG := hide1 hg; clear ho hg hf)
              go_roundw
              case rel =>
                obtain ⟨x1, x2, x3⟩ := HE.out
                have x4 := HM.out
                have x5 := HKK.out
                have x6 := HLE.out
                rw [stO, if_pos x5] at x2
                rw [stR, if_pos x5] at x3
                have hcp : m ≤ zc := HCP.out
                have hct := HRn.out.cut2 (by have := HM.out; simp at this; omega)
                have hob := own_cut gz oz r'.length zc
                refine ⟨r', o ++ [p.2], n0 + 1, _, zc - 1, v2, ?_, rfl, by go_num, hct, by simp at x4; omega, fun g hg => HOW.out g (by rw [hob] at hg; exact hg), HO.out, ?_, by simp; omega, by rw [x2]; simp, x3, by simp at x6 ⊢; omega, fun x hx => HUR.out x (by simp [hx])⟩
                · simp at x4
                  rw [← x4]
                  rfl
                · exact (HBw.out.alloc HBw.out.size _).grown HG.out HQ.out.2 (fun k hk => (HLo.out.lt hk).1)
              case measure =>
                have x4 := HM.out
                simp [lenOf]
                omega
            · have gk : ¬ (p.1 : Int) = (n0 : Int) := by omega
              have FN := hide1 (FIN.out (by rw [stO, if_neg hk]) (by rw [stR, if_neg hk]))
              have hbx := (HBa.out.block b1 (lt_heap H2.out.2)).trans H2.out.2
              have HBX := hide1 hbx
              clear FIN hbx hm
              go_wp2
              exact ret_i3 Tryz.results61 b1 _ _ _ _ rfl rfl rfl (set_box2 HBX.out) rfl FN.out
      | false =>
        have LC := hide1 (HL.out.below (below1 (.cells #[.int .u32 (q : Int), .string b] 175)) (Nat.le_refl _))
        have RC := hide1 (Rnl.one wr 175 q b)
        have HLQ : Hid (P.length ≤ 1000000 ∧ W1.heap.size ≤ (wr.alloc (.cells #[.int .u32 (q : Int), .string b] 175)).heap.size) := by
          have h3 := HBr.out.size
          have h4 := HPL.out
          refine ⟨by omega, ?_⟩
          simp
          omega
        have HNX : Hid (∀ WE : World, (wr.alloc (.cells #[.int .u32 (q : Int), .string b] 175)).grownBy WE v.ownBlock → Below W1.heap.size W1 WE ∧ WE.cell? ⟨b0, 0, none⟩ = some (.int .i64 (A : Int))) := fun WE hg => by
          have x0 : Below W1.heap.size W1 WE := (HBr.out.alloc HBr.out.size _).grown hg HLQ.out.2 (fun k hk => (HL.out.lt hk).1)
          exact ⟨x0, (box2 ((x0.block b0 (lt_heap H2.out.1)).trans H2.out.1)).1⟩
        have HPP : Hid (P ++ [(q, b)] = L) := HP.out
        clear HP HPL hdn hj hjn
        go_wp2_with (at_builtin; go_must (refine wpList_append_nls ntyR rfl _ _ rfl rfl rfl LC.out RC.out HLQ.out.1 HLQ.out.2 ?_); intro v2 W2 ho hg hf; obtain ⟨x0, x1⟩ := HNX.out _ hg; have B2 := hide1 x0; have L2' := hide1 ho; clear ho hg hf x0)
        have L2 : Hid (Nls 175 W1.heap.size W2 v2 L) := by
          rw [← HPP.out]
          exact L2'.out
        have OWL : Hid (∀ g, v2.ownBlock = some g → g < W2.heap.size) := fun g hg => (L2.out.lt hg).2
        clear HBr HL L2' LC RC HLQ HNX
        have HS9 : Hid (W1.heap.size ≤ W2.heap.size) := B2.out.size
        have CP := hide1 L2.out.cap
        have OW := hide1 L2.out.own
        have RD2 := hide1 L2.out.rd
        have HUP : Hid (∀ x ∈ L, x.1 < 4294967296) := fun x hx => by
          rw [← HLL.out] at hx
          have := upto_ins (s := b) HD.out.upto h2 x hx
          omega
        have hLN : Hid (L.length ≤ 16) := by unfold Hid; have := HD.out.len; rw [← HLL.out, ins_length]; omega
        obtain ⟨za, zc, rfl⟩ := L2.out.form
        obtain ⟨d0, d1, _, _, _⟩ := box2 ((B2.out.block b0 (lt_heap H2.out.1)).trans H2.out.1)
        clear L2
        skip
        go_loopw [9, 12, 13] (fun lv ov nv wr => ∃ (r : List (Nat × ByteArray)) (o : List ByteArray) (n0 : Nat) (za : Option Addr) (zc : Nat) (zo : Value), lv = .slice za r.length zc ∧ ov = zo ∧ nv = .int .i64 (n0 : Int) ∧ Rnl W2 (.slice za r.length zc) r ∧ r.length ≤ zc ∧ (∀ g, (Value.slice za r.length zc).ownBlock = some g → W1.heap.size ≤ g ∧ g < W2.heap.size) ∧ Lst W2.heap.size wr zo o ∧ Below W2.heap.size W2 wr ∧ n0 = A + o.length ∧ stO A L = o ++ stO n0 r ∧ stR A L = stR n0 r ∧ r.length + o.length ≤ 16 ∧ (∀ x ∈ r, x.1 < 4294967296)) (fun lv _ _ _ => lenOf lv)
        case atStart => exact ⟨L, [], A, za, zc, _, rfl, rfl, rfl, RD2.out, CP.out, fun g hg => ⟨OW.out g hg, OWL.out g hg⟩, Lst.nil _ _, Below.refl _ _, rfl, rfl, rfl, by have := hLN.out; simp; omega, HUP.out⟩
        case round =>
          obtain ⟨r, o, n0, za, zc, zo, rfl, hzo, rfl, hRn, hcap, hown, hLo, hBw, hn0, hO, hRr, hle, hup⟩ := hrel
          obtain rfl := hzo.symm
          have HRn := hide1 hRn
          have HOW := hide1 hown
          have HLo := hide1 hLo
          have HBw := hide1 hBw
          have HE := hide1 (And.intro hn0 (And.intro hO hRr))
          have HLE := hide1 hle
          have HUR := hide1 hup
          have hn0b : n0 ≤ 4294967300 := by have := HA.out; omega
          have RNw := hRn.below hBw (Nat.le_refl _)
          have HBa : Hid (Below W1.heap.size W1 wr) := B2.out.trans (hBw.mono HS9.out)
          obtain ⟨f0, f1, z0, z1, _⟩ := box2 ((HBa.out.block b1 (lt_heap H2.out.2)).trans H2.out.2)
          clear hRn hown hLo hBw hn0 hO hRr hzo hle hup
          have FIN : Hid (stO n0 r = [] → stR n0 r = r → ∃ u' v, Ending.returned (.tuple #[.agg #[.int .i64 (n0 : Int), .slice za r.length zc], zo, .int .i64 0]) = .returned (.tuple #[.agg #[.int .i64 ((a + (stO A L).length + 1 : Nat) : Int), u'], v, .int .i64 0]) ∧ Rnl ((wr.setCell ⟨b1, 0, none⟩ (.int .i64 (n0 : Int))).setCell ⟨b1, 1, none⟩ (.slice za r.length zc)) u' (stR A L) ∧ Lst w.heap.size ((wr.setCell ⟨b1, 0, none⟩ (.int .i64 (n0 : Int))).setCell ⟨b1, 1, none⟩ (.slice za r.length zc)) v (stO A L) ∧ Below w.heap.size w ((wr.setCell ⟨b1, 0, none⟩ (.int .i64 (n0 : Int))).setCell ⟨b1, 1, none⟩ (.slice za r.length zc)) ∧ ∀ g, u'.ownBlock = some g → w.heap.size ≤ g) := fun e1 e2 => by
            obtain ⟨x1, x2, x3⟩ := HE.out
            obtain ⟨y1, y2, y3⟩ := HX.out
            have hAa := HA.out
            have hk2 : Kp (fun g => g = b1) wr ((wr.setCell ⟨b1, 0, none⟩ (.int .i64 (n0 : Int))).setCell ⟨b1, 1, none⟩ (.slice za r.length zc)) := (Kp.setCell (F := fun g => g = b1) _ b1 0 _ rfl).trans (Kp.setCell (F := fun g => g = b1) _ b1 1 _ rfl)
            refine ⟨.slice za r.length zc, zo, ?_, ?_, ?_, ?_, ?_⟩
            · rw [x2, e1, List.append_nil, show a + o.length + 1 = n0 by omega]
            · rw [x3, e2]
              refine (HRn.out.below HBw.out (Nat.le_refl _)).kp hk2 fun g hg e => ?_
              have := (HOW.out g hg).1
              omega
            · rw [x2, e1, List.append_nil]
              refine (HLo.out.kp hk2 fun g hg e => ?_).mono (by have := HS9.out; omega)
              have := (HLo.out.lt hg).1
              have := HS9.out
              omega
            · exact below_set2 (HB.out.trans (HBa.out.mono (by omega))) (by omega)
            · intro g hg
              have := (HOW.out g hg).1
              omega
          cases r with
          | nil =>
            have FN := hide1 (FIN.out rfl rfl)
            have hbx := (HBa.out.block b1 (lt_heap H2.out.2)).trans H2.out.2
            have HBX := hide1 hbx
            clear FIN RNw hbx
            go_wp2
            exact ret_i3 Tryz.results61 b1 _ _ _ _ rfl rfl rfl (set_box2 HBX.out) rfl FN.out
          | cons p r' =>
            obtain ⟨gz, oz, rfl, _, c0, c1⟩ := RNw.head
            clear RNw
            obtain ⟨m, hm⟩ : ∃ m, (p :: r').length = m := ⟨_, rfl⟩
            have HM := hide1 hm
            have hp32 := HUR.out p (by simp)
            have gm : (0 : Int) < (m : Int) := by
              have : 0 < (p :: r').length := by simp
              omega
            rw [hm] at hcap FIN HRn HOW ⊢
            have HCP := hide1 hcap
            by_cases hk : p.1 = n0
            · have HKK := hide1 hk
              rw [hk] at c0
              have RC := hide1 (Rdl.one wr p.2)
              have LC := hide1 (HLo.out.below (below1 (.cells #[.string p.2] 9)) (Nat.le_refl _))
              have HQ : Hid (o.length + [p.2].length ≤ 1000000 ∧ W2.heap.size ≤ (wr.alloc (.cells #[.string p.2] 9)).heap.size) := by
                have h3 := HBw.out.size
                have h4 := HLE.out
                refine ⟨by simp; omega, ?_⟩
                simp
                omega
              have g1' : (1 : Int) ≤ (m : Int) := by omega
              clear FIN hm
              go_wp2_with (at_builtin; go_must (refine wpList_append_lst (C := [p.2]) rfl _ _ rfl rfl rfl LC.out RC.out HQ.out.1 HQ.out.2 ?_); intro v2 WE ho hg hf; have HO := hide1 ho; have HG := hide1 hg; clear ho hg hf)
              go_roundw
              case rel =>
                obtain ⟨x1, x2, x3⟩ := HE.out
                have x4 := HM.out
                have x5 := HKK.out
                have x6 := HLE.out
                rw [stO, if_pos x5] at x2
                rw [stR, if_pos x5] at x3
                have hcp : m ≤ zc := HCP.out
                have hct := HRn.out.cut2 (by have := HM.out; simp at this; omega)
                have hob := own_cut gz oz r'.length zc
                refine ⟨r', o ++ [p.2], n0 + 1, _, zc - 1, v2, ?_, rfl, by go_num, hct, by simp at x4; omega, fun g hg => HOW.out g (by rw [hob] at hg; exact hg), HO.out, ?_, by simp; omega, by rw [x2]; simp, x3, by simp at x6 ⊢; omega, fun x hx => HUR.out x (by simp [hx])⟩
                · simp at x4
                  rw [← x4]
                  rfl
                · exact (HBw.out.alloc HBw.out.size _).grown HG.out HQ.out.2 (fun k hk => (HLo.out.lt hk).1)
              case measure =>
                have x4 := HM.out
                simp [lenOf]
                omega
            · have gk : ¬ (p.1 : Int) = (n0 : Int) := by omega
              have FN := hide1 (FIN.out (by rw [stO, if_neg hk]) (by rw [stR, if_neg hk]))
              have hbx := (HBa.out.block b1 (lt_heap H2.out.2)).trans H2.out.2
              have HBX := hide1 hbx
              clear FIN hbx hm
              go_wp2
              exact ret_i3 Tryz.results61 b1 _ _ _ _ rfl rfl rfl (set_box2 HBX.out) rfl FN.out

end Go.Proofs.YtcadlcpccemkbaaGreatDoor
