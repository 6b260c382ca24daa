/- Bodies that wait are numbered, as long as there is room. -/
import Derived.Test.YtcadlcpccemkbaaJn
namespace Go.Proofs.Ytcadlcpccemkbaa
open Go.RowKit
set_option maxRecDepth 100000
attribute [local go_sem] not_any

theorem delete_none {B : Nat} {v : Value} {A : List ByteArray} {w : World} (h : Lst B w v A) :
    Calls Try.prog 34 #[v, .int .i64 0, .int .i64 0] w fun e w' => e = .returned v ∧ w' = w := by
  rcases id h.2 with ⟨rfl, h0⟩ | ⟨g, cap, cur, rfl, hb, hgg, hnc, hcm, hcs, htake⟩
  · clear h
    go_enter Try.func34, Try.ntmps34
    go_wp2
    go_ret
    exact ⟨rfl, rfl⟩
  · generalize A.length = n at *
    clear h hcs htake hgg
    go_enter Try.func34, Try.ntmps34
    go_wp2
    go_ret
    exact ⟨rfl, rfl⟩
theorem delete_all {B : Nat} {v : Value} {A : List ByteArray} {w : World} {k : Nat} (h : Lst B w v A) (hk : k ≤ A.length) :
    Calls Try.prog 34 #[v, .int .i64 0, .int .i64 (k : Int)] w fun e w' => ∃ v', e = .returned v' ∧ Lst B w' v' (A.drop k) ∧ w.grownBy w' v.ownBlock ∧ v'.ownBlock = v.ownBlock := by
  by_cases h0 : k = 0
  · subst h0
    refine (delete_none h).mono ?_
    rintro e w' ⟨rfl, rfl⟩
    exact ⟨v, rfl, h, ⟨rfl, rfl, rfl, Nat.le_refl _, fun _ _ _ => rfl⟩, rfl⟩
  · exact delete_any h (by omega) hk

/- how many are moved, which, and the end behind it -/
def Ls.mvn (x : Ls) : Nat := min (16 - x.A.length) x.Q.length
def Ls.mvd (x : Ls) : List (Nat × ByteArray) := pend (x.k + x.A.length + 1) (x.Q.take x.mvn)
def Ls.mv (x : Ls) : Ls := { x with A := x.A ++ x.Q.take x.mvn, Q := x.Q.drop x.mvn }

theorem take_snoc (Q : List ByteArray) (j : Nat) (h : j < Q.length) : Q.take (j + 1) = Q.take j ++ [Q.getD j ByteArray.empty] := by
  rw [List.take_add_one, List.getElem?_eq_getElem h]
  simp [List.getD, List.getElem?_eq_getElem h]

/- what move leaves: the end, and a list of what was moved, apart from it -/
def Mvp (B s : Nat) (v m u : Value) (w : World) (n : Nat) (x : Ls) (z : Value) (l : List (Nat × ByteArray)) (w' : World) : Prop :=
  ∃ v' m' u', Lkm B s v' m' u' n x w' ∧ Kp (Lf s v m u) w w' ∧ (∀ g, Lf s v' m' u' g → Lf s v m u g ∨ w.heap.size ≤ g) ∧ Nls 83 w.heap.size w' z l ∧ ∀ g, z.ownBlock = some g → ¬ Lf s v' m' u' g

set_option maxHeartbeats 4000000 in
theorem lmove_any {N B s n : Nat} {v m u : Value} {x : Ls} {w : World} (h : Lkm B s v m u n x w) (hBw : B ≤ w.heap.size) (hx : x.Ok N) (hN : N + 1000 < 4294967296) :
    Calls Try.prog 25 #[.pointer (some ⟨s, 0, none⟩)] w fun e w' => ∃ z, e = .returned z ∧ Mvp B s v m u w n x.mv z x.mvd w' := by
  have H := hide1 h
  have HBw := hide1 hBw
  have HX := hide1 hx
  have HN := hide1 hN
  obtain ⟨_, _, _, _, c8⟩ := boxS h.row
  obtain ⟨ua, uc, hu⟩ := h.ln.form
  obtain ⟨q, hq⟩ : ∃ q, x.Q.length = q := ⟨_, rfl⟩
  rw [hq] at hu
  have HQ := hide1 hq
  have HU := hide1 hu
  rw [hu] at c8
  clear h hx hBw hN hq hu
  go_enter Try.func25, Try.ntmps25
  go_wp2_with fail
  clear c8
  go_loopw [3, 13] (fun p i wr => ∃ (j : Nat) (z v' : Value), j ≤ x.mvn ∧ i = .int .i64 (j : Int) ∧ p = z ∧ Nls 83 w.heap.size wr z (pend (x.k + x.A.length + 1) (x.Q.take j)) ∧ Lkm B s v' m u n { x with A := x.A ++ x.Q.take j } wr ∧ Kp (Lf s v m u) w wr ∧ (∀ g, Lf s v' m u g → Lf s v m u g ∨ w.heap.size ≤ g) ∧ ∀ g, z.ownBlock = some g → ¬ Lf s v' m u g) (fun _ i _ => 100 - (intOf i).toNat)
  case atStart =>
    refine ⟨0, _, v, Nat.zero_le _, rfl, rfl, Nls.nil _ _ _, ?_, Kp.refl _ _, fun g hg => .inl hg, fun g hg => by cases hg⟩
    have := H.out
    simpa using this
  case round =>
    obtain ⟨j, z, v1, hj, rfl, hz, hL, hM, hK, hF, hD⟩ := hrel
    obtain rfl := hz.symm
    have HL := hide1 hL
    have HM := hide1 hM
    have HK := hide1 hK
    have HF := hide1 hF
    have HD := hide1 hD
    have HJ := hide1 hj
    have HJQ : Hid (j ≤ x.Q.length) := by unfold Hid; unfold Ls.mvn at hj; omega
    have HF0 := hide1 HF.out
    clear hL hM hK hF hD hz hj
    by_cases hjq : j < q
    · have gin : (j : Int) < (q : Int) := by omega
      have hq64 : q ≤ 1000 := by have := HQ.out; have := HX.out.Q64; omega
      have hjA : j < x.Q.length := by have := HQ.out; omega
      obtain ⟨g1, c1, e1, k1, _⟩ := HM.out.ln.cell hjA
      have e1' := HU.out.symm.trans e1
      change Value.slice ua q uc = Value.slice (some ⟨g1, 0, none⟩) x.Q.length c1 at e1'
      rw [HQ.out] at e1'
      cases e1'
      clear e1
      have hmem : x.Q.getD j ByteArray.empty ∈ x.Q := by simp [List.getD, List.getElem?_eq_getElem hjA]
      have hsz : (x.Q.getD j ByteArray.empty).size ≤ 281474976710656 := Nat.le_trans (HX.out.szQ _ hmem) (by decide)
      have PN := hide1 (pend_snoc (x.k + x.A.length + 1) x.Q j hjA)
      have TS := hide1 (take_snoc x.Q j hjA)
      have hlen : (x.A ++ x.Q.take j).length = x.A.length + j := by simp; omega
      have kP := hide1 (put_any HM.out.otm (by have := HBw.out; have := HK.out.size; omega) (by have h1 := HX.out.kN; have h2 := HN.out; change x.k + (x.A ++ x.Q.take j).length + 1 < _; rw [hlen]; omega) (by change (x.A ++ x.Q.take j).length ≤ 16; rw [hlen]; have := HJ.out; unfold Ls.mvn at this; have := HX.out.A16; omega) _ hsz)
      have hptc : ptC x.k (x.A ++ x.Q.take j) = if 16 ≤ x.A.length + j then 23 else 0 := by
        unfold ptC
        rw [hlen]
        by_cases h16 : 16 ≤ x.A.length + j
        · rw [if_pos h16, if_pos h16]
        · rw [if_neg h16, if_neg h16, if_neg (by have h1 := HX.out.kN; have h2 := HN.out; omega)]
      change Hid (Calls Try.prog 33 _ wr fun e w' => ∃ v', e = .returned (.tuple #[.int .u32 (ptN x.k (x.A ++ x.Q.take j)), .int .i64 (ptC x.k (x.A ++ x.Q.take j))]) ∧ Otm _ B s v' x.k (ptL x.k (x.A ++ x.Q.take j) _) w' ∧ _ ∧ _) at kP
      unfold ptN ptL at kP
      rw [hptc, hlen] at kP
      generalize x.Q.getD j ByteArray.empty = b at k1 PN TS kP
      by_cases h16 : 16 ≤ x.A.length + j
      · rw [if_pos h16] at kP
        have HJN : Hid (j = x.mvn) := by have h1 := HJ.out; unfold Ls.mvn at h1; unfold Hid Ls.mvn; omega
        rw [if_neg (by decide), if_neg (by decide), show ((23 : Nat) : Int) = 23 from rfl] at kP
        clear hptc hlen hsz hmem h16 hjA PN TS
        go_wp2_with fail
        refine kP.out.mono ?_
        rintro e WX ⟨v2, rfl, hO, hK2, hf2⟩
        obtain ⟨M1, M2, M3⟩ := HM.out.outed hO hK2 hf2
        have hzlt : Hid (∀ g, z.ownBlock = some g → g < wr.heap.size) := fun g hg => (HL.out.lt hg).2
        replace HL := hide1 (HL.out.same fun g hg => hK2.block g (HL.out.lt hg).2 (fun e => HD.out g hg (by rcases e with e | e; exact .inl e; exact .inr (.inl e))))
        replace HD : Hid (∀ g, z.ownBlock = some g → ¬ Lf s v2 m u g) := fun g hg e => by
          rcases M3 g e with h1 | h1
          · exact HD.out g hg h1
          · have := hzlt.out g hg
            omega
        replace HF : Hid (∀ g, Lf s v2 m u g → Lf s v m u g ∨ w.heap.size ≤ g) := fun g e => by
          rcases M3 g e with h1 | h1
          · exact HF.out g h1
          · have := HK.out.size
            exact .inr (by omega)
        replace HK := hide1 (HK.out.join M2 HF0.out)
        replace HM : Hid (Lkm B s v2 m u n { x with A := x.A ++ x.Q.take j } WX) := M1
        clear hO hK2 hf2 M1 M2 M3 kP k1 hzlt HF0 gin hjq hq64
        have HL9 := HL.out
        have hzl : ∃ a9 c9, z = .slice a9 j c9 := by
          obtain ⟨a9, c9, h9⟩ := HL9.form
          rw [pend_length, List.length_take, Nat.min_eq_left HJQ.out] at h9
          exact ⟨a9, c9, h9⟩
        obtain ⟨a9, c9, rfl⟩ := hzl
        have c8 := (boxS HM.out.row).2.2.2.2
        have f8 := frozen_of_row WX s 8 _ _ HM.out.row
        have kD := hide1 (delete_all HM.out.ln HJQ.out)
        have HR := hide1 HM.out.row
        clear HL9
        go_wp2_with fail
        refine kD.out.mono ?_
        rintro e W9 ⟨u9, rfl, hu9, hg9, hf9⟩
        obtain ⟨P1, P2, P3⟩ := HM.out.lined hu9 hg9 fun g hg => .inl (hf9 ▸ hg)
        have HP1 := hide1 P1
        have HP2 := hide1 P2
        have HP3 := hide1 P3
        have R9 := (hg9.block s (lt_heap HR.out) (fun e => HM.out.nu e.symm)).trans HR.out
        have k8 := (boxS R9).2.2.2.2
        have q8 := frozen_of_row W9 s 8 _ _ R9
        have HG9 := hide1 (hg9)
        obtain ⟨a7, c7, h7⟩ := hu9.form
        obtain ⟨n7, hn7⟩ : ∃ n, (x.Q.drop j).length = n := ⟨_, rfl⟩
        have h7' : u9 = .slice a7 n7 c7 := by rw [← hn7]; exact h7
        subst h7'
        clear P1 P2 P3 R9 hg9 hu9 hf9 kD h7 hn7 c8 f8
        go_wp2
        go_ret
        have hzg : ∀ g, (Value.slice a9 j c9).ownBlock = some g → ¬ (g = s ∨ u.ownBlock = some g) := fun g hg e => by
          rcases e with e | e
          · exact HD.out g hg (.inl e)
          · exact HD.out g hg (.inr (.inr (.inr e)))
        refine ⟨_, rfl, v2, m, .slice a7 n7 c7, ?_, HK.out.join HP2.out HF.out, fun g hg => ?_, ?_, fun g hg e => ?_⟩
        · have h9 := HP1.out
          rw [Ls.mv, ← HJN.out]
          exact h9
        · rcases HP3.out g hg with h1 | h1
          · exact HF.out g h1
          · have := HK.out.size
            exact .inr (by omega)
        · rw [Ls.mvd, ← HJN.out]
          refine HL.out.same fun g hg => ?_
          have hlt := (HL.out.lt hg).2
          have e1 : W9.heap[g]? = WX.heap[g]? := HG9.out.block g hlt (fun e => hzg g hg (.inr e.symm))
          exact (heap_setCell_other _ _ _ _ (fun e => hzg g hg (.inl e))).trans e1
        · rcases HP3.out g e with h1 | h1
          · exact HD.out g hg h1
          · have := (HL.out.lt hg).2
            omega
      · rw [if_neg h16] at kP
        rw [if_pos rfl, if_pos rfl] at kP
        obtain ⟨mm, hmm⟩ : ∃ mm, x.k + (x.A.length + j) + 1 = mm := ⟨_, rfl⟩
        rw [hmm] at kP
        rw [show x.k + x.A.length + 1 + j = mm by omega] at PN
        have HJ1 : Hid (j + 1 ≤ x.mvn ∧ j < 64) := by have h1 := HX.out.Q64; unfold Hid Ls.mvn; omega
        clear hptc hlen hsz hmem h16 hjA hmm
        go_wp2_with fail
        refine kP.out.mono ?_
        rintro e W1 ⟨v2, rfl, hO, hK2, hf2⟩
        obtain ⟨M1, M2, M3⟩ := HM.out.outed hO hK2 hf2
        have hzlt : Hid (∀ g, z.ownBlock = some g → g < wr.heap.size) := fun g hg => (HL.out.lt hg).2
        replace HL := hide1 (HL.out.same fun g hg => hK2.block g (HL.out.lt hg).2 (fun e => HD.out g hg (by rcases e with e | e; exact .inl e; exact .inr (.inl e))))
        replace HD : Hid (∀ g, z.ownBlock = some g → ¬ Lf s v2 m u g) := fun g hg e => by
          rcases M3 g e with h1 | h1
          · exact HD.out g hg h1
          · have := hzlt.out g hg
            omega
        replace HF : Hid (∀ g, Lf s v2 m u g → Lf s v m u g ∨ w.heap.size ≤ g) := fun g e => by
          rcases M3 g e with h1 | h1
          · exact HF.out g h1
          · have := HK.out.size
            exact .inr (by omega)
        replace HK := hide1 (HK.out.join M2 HF0.out)
        replace HM : Hid (Lkm B s v2 m u n { x with A := x.A ++ x.Q.take (j + 1) } W1) := by
          unfold Hid
          rw [TS.out, ← List.append_assoc]
          exact M1
        clear hO hK2 hf2 M1 M2 M3 kP k1 hzlt HF0
        have b1 : Hid (Below W1.heap.size W1 (W1.alloc (.cells #[.int .u32 (mm : Int), .string b] 83))) := below1 _
        have LC := hide1 (HL.out.below b1.out (Nat.le_refl _))
        have RC := hide1 (Rnl.one W1 83 mm b)
        have HLE : Hid ((pend (x.k + x.A.length + 1) (x.Q.take j)).length ≤ 1000000 ∧ w.heap.size ≤ (W1.alloc (.cells #[.int .u32 (mm : Int), .string b] 83)).heap.size) := by
          have h1 := HX.out.Q64
          have h3 := HK.out.size
          have h4 := b1.out.size
          refine ⟨?_, by omega⟩
          rw [pend_length, List.length_take]
          omega
        go_wp2_with (at_builtin; go_must (refine wpList_append_nls ntyW rfl _ _ rfl rfl rfl LC.out RC.out HLE.out.1 HLE.out.2 ?_); intro z2 WE ho hg hf; have HO := hide1 ho; have HG := hide1 hg; have HFZ := hide1 hf; clear ho hg hf)
        go_roundw
        case rel =>
          have kE : Kp (fun g => z.ownBlock = some g) (W1.alloc (.cells #[.int .u32 (mm : Int), .string b] 83)) WE := Kp.ofGrown HG.out
          have mA := HM.out.below b1.out (Nat.le_refl _)
          have mE : Lkm B s v2 m u n { x with A := x.A ++ x.Q.take (j + 1) } WE := mA.kp kE fun g hg e => HD.out g e hg
          refine ⟨j + 1, z2, v2, HJ1.out.1, by go_num, rfl, ?_, mE, ?_, HF.out, fun g hg e => ?_⟩
          · rw [← PN.out]
            exact HO.out
          · refine (HK.out.trans (Kp.ofBelow b1.out)).join kE fun g hg => .inr (HL.out.lt hg).1
          · rcases HFZ.out g hg with h1 | h1
            · exact HD.out g h1 e
            · have := (mA.flt e).2
              omega
        case measure => have := HJ1.out.2; simp [intOf]; omega
    · have gin : ¬ (j : Int) < (q : Int) := by omega
      have HJN : Hid (j = x.mvn) := by have h1 := HJ.out; have h2 := HQ.out; unfold Ls.mvn at h1; unfold Hid Ls.mvn; omega
      clear HF0
      have HL9 := HL.out
      have hzl : ∃ a9 c9, z = .slice a9 j c9 := by
        obtain ⟨a9, c9, h9⟩ := HL9.form
        rw [pend_length, List.length_take, Nat.min_eq_left HJQ.out] at h9
        exact ⟨a9, c9, h9⟩
      obtain ⟨a9, c9, rfl⟩ := hzl
      have c8 := (boxS HM.out.row).2.2.2.2
      have f8 := frozen_of_row wr s 8 _ _ HM.out.row
      have kD := hide1 (delete_all HM.out.ln HJQ.out)
      have HR := hide1 HM.out.row
      clear HL9
      go_wp2_with fail
      refine kD.out.mono ?_
      rintro e W9 ⟨u9, rfl, hu9, hg9, hf9⟩
      obtain ⟨P1, P2, P3⟩ := HM.out.lined hu9 hg9 fun g hg => .inl (hf9 ▸ hg)
      have HP1 := hide1 P1
      have HP2 := hide1 P2
      have HP3 := hide1 P3
      have R9 := (hg9.block s (lt_heap HR.out) (fun e => HM.out.nu e.symm)).trans HR.out
      have k8 := (boxS R9).2.2.2.2
      have q8 := frozen_of_row W9 s 8 _ _ R9
      have HG9 := hide1 (hg9)
      obtain ⟨a7, c7, h7⟩ := hu9.form
      obtain ⟨n7, hn7⟩ : ∃ n, (x.Q.drop j).length = n := ⟨_, rfl⟩
      have h7' : u9 = .slice a7 n7 c7 := by rw [← hn7]; exact h7
      subst h7'
      clear P1 P2 P3 R9 hg9 hu9 hf9 kD h7 hn7 c8 f8
      go_wp2
      go_ret
      have hzg : ∀ g, (Value.slice a9 j c9).ownBlock = some g → ¬ (g = s ∨ u.ownBlock = some g) := fun g hg e => by
        rcases e with e | e
        · exact HD.out g hg (.inl e)
        · exact HD.out g hg (.inr (.inr (.inr e)))
      refine ⟨_, rfl, v1, m, .slice a7 n7 c7, ?_, HK.out.join HP2.out HF.out, fun g hg => ?_, ?_, fun g hg e => ?_⟩
      · have h9 := HP1.out
        rw [Ls.mv, ← HJN.out]
        exact h9
      · rcases HP3.out g hg with h1 | h1
        · exact HF.out g h1
        · have := HK.out.size
          exact .inr (by omega)
      · rw [Ls.mvd, ← HJN.out]
        refine HL.out.same fun g hg => ?_
        have hlt := (HL.out.lt hg).2
        have e1 : W9.heap[g]? = wr.heap[g]? := HG9.out.block g hlt (fun e => hzg g hg (.inr e.symm))
        exact (heap_setCell_other _ _ _ _ (fun e => hzg g hg (.inl e))).trans e1
      · rcases HP3.out g e with h1 | h1
        · exact HD.out g hg h1
        · have := (HL.out.lt hg).2
          omega

end Go.Proofs.Ytcadlcpccemkbaa
