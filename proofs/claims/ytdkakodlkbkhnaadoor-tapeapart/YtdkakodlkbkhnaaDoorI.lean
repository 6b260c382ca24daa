/- Next; Numbers; the document's Cut and Numbers. -/
import Derived.Test.YtdkakodlkbkhnaaDoorH
import Derived.Laws.BitsAllLaws
namespace Go.Proofs.YtdkakodlkbkhnaaDoor
open Go.RowKit
set_option maxRecDepth 100000
attribute [local go_sem] not_any mf_any

def NextPost (w : World) (t b k : Nat) (ws : List Nat) (e : Ending) (w' : World) : Prop :=
  ∃ x v, e = .returned (.tuple #[.int .u64 (x : Nat), v]) ∧ x = at0 (takeL 1 k ws) 0 ∧ IsE w' (takeC 1 k ws.length) v ∧ Tp w' t b (takeK 1 k ws.length) ws.length ∧ Kp (fun j _ => j = t) w w'

set_option maxHeartbeats 2000000 in
theorem next_any (t b k : Nat) (ws : List Nat) (w : World) (ht : Tp w t b k ws.length) (hr : w.heap[b]? = some (wrow ws)) (hL : ws.length ≤ 1048576) :
    Calls Tryd.prog 14 #[.pointer (some ⟨t, 0, none⟩)] w (NextPost w t b k ws) := by
  have h1 : ¬ (1 : Int) < 0 := by omega
  by_cases h2 : ws.length < k + 1
  · have h2' : ((ws.length : Nat) : Int) < (k : Int) + 1 := by omega
    have HP : Shy (takeK 1 k ws.length = k ∧ takeC 1 k ws.length = 10 ∧ takeL 1 k ws = []) := ⟨by simp only [takeK, takeC, takeL, if_neg h1, if_pos h2', and_self]⟩
    have HT := hide1 ht
    have HK := hide1 (take_far t b k ws.length 1 w ht hL h2)
    rw [show ((1 : Nat) : Int) = 1 from rfl] at HK
    clear ht hr hL h1 h2 h2'
    go_enter Tryd.func14, Tryd.ntmps14
    go_wp2_with fail
    refine HK.out.mono ?_
    rintro e w1 ⟨rfl, h3, h4⟩
    have H := hide1 (And.intro h3 h4)
    clear h3 h4
    go_wp2
    go_ret2
    exact ⟨0, _, rfl, by rw [HP.out.2.2]; rfl, by rw [HP.out.2.1]; exact .inr ⟨rfl, _, rfl, H.out.1⟩, by rw [HP.out.1]; exact HT.out.below H.out.2 HT.out.lt, Kp.ofBelow H.out.2⟩
  · have h2' : ¬ ((ws.length : Nat) : Int) < (k : Int) + 1 := by omega
    have HP : Shy (takeK 1 k ws.length = k + 1 ∧ takeC 1 k ws.length = 0 ∧ takeL 1 k ws = (ws.drop k).take 1) := ⟨by simp only [takeK, takeC, takeL, if_neg h1, if_neg h2', and_self, Int.toNat_one]⟩
    have HK := hide1 (take_yes t b k 1 ws w ht hr hL (by omega))
    rw [show ((1 : Nat) : Int) = 1 from rfl] at HK
    have HLP := hide1 (len_part (ws := ws) (k := k) (n := 1) (by omega))
    clear ht hr hL h1 h2 h2'
    go_enter Tryd.func14, Tryd.ntmps14
    go_wp2_with fail
    refine HK.out.mono ?_
    rintro e w1 ⟨rfl, h3, h4, h5⟩
    have c0 : w1.cell? ⟨w.heap.size, 0, none⟩ = some (.int .u64 (at0 ((ws.drop k).take 1) 0 : Nat)) := (mn_row h3).cell (by rw [HLP.out]; omega)
    have H := hide1 (And.intro h4 h5)
    obtain ⟨x, hx⟩ : ∃ x, x = at0 ((ws.drop k).take 1) 0 := ⟨_, rfl⟩
    rw [← hx] at c0
    have HX : Shy (x = at0 ((ws.drop k).take 1) 0) := ⟨hx⟩
    clear h3 h4 h5 hx
    go_wp2
    go_ret2
    exact ⟨x, _, rfl, by rw [HP.out.2.2]; exact HX.out, by rw [HP.out.2.1]; exact IsE.nil _, by rw [HP.out.1]; exact H.out.1, H.out.2⟩

theorem next_none (x : Value) (w : World) (h : No w x) :
    Calls Tryd.prog 14 #[x] w fun e w' => e = .returned (.tuple #[.int .u64 0, .iface 93 (.pointer (some ⟨w.heap.size, 0, none⟩))]) ∧ Rt w' w.heap.size 3 ∧ Below w.heap.size w w' := by
  have HK := hide1 (take_none x 1 w h)
  clear h
  go_enter Tryd.func14, Tryd.ntmps14
  go_wp2_with fail
  refine HK.out.mono ?_
  rintro e w1 ⟨rfl, h3, h4⟩
  have H := hide1 (And.intro h3 h4)
  clear h3 h4
  go_wp2
  go_ret2
  exact ⟨rfl, H.out.1, H.out.2⟩

/- a number cut to so many bits -/
def cutN (B x : Nat) : Nat := x % 2 ^ B
theorem pow_le64 {L : Nat} (h : L ≤ 64) : 2 ^ L ≤ 18446744073709551616 := Nat.pow_le_pow_right (n := 2) (j := 64) (by omega) h
theorem pow_pos2 (L : Nat) : 0 < 2 ^ L := Nat.pow_pos (by omega)
theorem mask_eq {L : Nat} (h : L ≤ 64) : 18446744073709551615 / 2 ^ (64 - L) = 2 ^ L - 1 := by
  have e : 18446744073709551616 = 2 ^ L * 2 ^ (64 - L) := by
    rw [← Nat.pow_add, show L + (64 - L) = 64 by omega]
  have h1 := pow_pos2 L
  have h2 := pow_pos2 (64 - L)
  generalize 2 ^ L = p at *
  generalize 2 ^ (64 - L) = q at *
  apply Nat.div_eq_of_lt_le
  · rw [Nat.sub_mul]
    omega
  · rw [show p - 1 + 1 = p by omega]
    omega
theorem and_cut {x L M : Nat} (hx : x < 18446744073709551616) (hL : L ≤ 64) (hM : M = 2 ^ L - 1) : bits .and .u64 (x : Int) (M : Int) = ((cutN L x : Nat) : Int) := by
  have := pow_le64 hL
  rw [u64_and_nat _ _ hx (by omega), hM, Nat.and_two_pow_sub_one_eq_mod]
  rfl

set_option maxHeartbeats 1000000 in
theorem rcut_any (x B : Nat) (w : World) (hx : x < 18446744073709551616) (hB : B ≤ 64) :
    Calls Tryd.prog 32 #[.int .u64 (x : Int), .int .i64 (B : Int)] w fun e w' => e = .returned (.int .u64 ((cutN B x : Nat) : Int)) ∧ w' = w := by
  by_cases h : B = 64
  · have HC : Shy (cutN B x = x) := ⟨by rw [cutN, h]; exact Nat.mod_eq_of_lt hx⟩
    have hge : decide ((64 : Int) ≤ (B : Int)) = true := by simp; omega
    have hge2 : 64 ≤ B := by omega
    clear hB hx h
    go_enter Tryd.func32, Tryd.ntmps32
    go_wp2
    go_ret
    rw [HC.out]
    exact ⟨rfl, rfl⟩
  · have h2 : 2 ^ B < 18446744073709551616 := Nat.pow_lt_pow_right (n := 64) (by omega) (by omega)
    have hge : decide ((64 : Int) ≤ (B : Int)) = false := by simp; omega
    have hge2 : ¬ 64 ≤ B := by omega
    have hp : IntKind.u64.wrap (2 ^ B) = ((2 ^ B : Nat) : Int) := by
      rw [IntKind.wrap_u64, show ((2 : Int) ^ B) = ((2 ^ B : Nat) : Int) by simp]
      generalize 2 ^ B = p at h2 ⊢
      omega
    have hz : ¬ ((2 ^ B : Nat) : Int) = 0 := by have := pow_pos2 B; omega
    go_enter Tryd.func32, Tryd.ntmps32
    go_wp2
    go_ret
    exact ⟨rfl, rfl⟩

/- the first i numbers cut -/
def cutTo (B i : Nat) (l : List Nat) : List Nat := (l.take i).map (cutN B) ++ l.drop i
theorem cutTo_length (B i : Nat) (l : List Nat) : (cutTo B i l).length = l.length := by simp [cutTo]; omega
theorem cutTo_zero (B : Nat) (l : List Nat) : cutTo B 0 l = l := by simp [cutTo]
theorem cutTo_all (B : Nat) (l : List Nat) : cutTo B l.length l = l.map (cutN B) := by simp [cutTo]
theorem cutTo_at {B i : Nat} {l : List Nat} (h : i < l.length) : at0 (cutTo B i l) i = at0 l i := by
  have h1 : ((l.take i).map (cutN B)).length = i := by simp; omega
  unfold cutTo at0
  rw [List.getElem?_append_right (by omega), h1, Nat.sub_self, List.getElem?_drop, Nat.add_zero]
theorem cutTo_step {B i : Nat} {l : List Nat} (h : i < l.length) : (cutTo B i l).set i (cutN B (at0 l i)) = cutTo B (i + 1) l := by
  have h1 : ((l.take i).map (cutN B)).length = i := by simp; omega
  have h2 : l.drop i = at0 l i :: l.drop (i + 1) := by
    rw [List.drop_eq_getElem_cons h, at0, List.getElem?_eq_getElem h]
    rfl
  have h3 : l.take (i + 1) = l.take i ++ [at0 l i] := by
    rw [List.take_add_one, get_at0 h]
    rfl
  unfold cutTo
  rw [List.set_append_right _ _ (by omega), h1, Nat.sub_self, h2, List.set_cons_zero, h3, List.map_append, List.append_assoc]
  rfl
theorem small_take {ws : List Nat} (h : Small ws) (n : Int) (k : Nat) : Small (takeL n k ws) := by
  intro j x hj
  unfold takeL at hj
  split at hj
  · simp at hj
  · split at hj
    · simp at hj
    · have hm := List.mem_of_getElem? hj
      have hm2 := List.mem_of_mem_drop (List.mem_of_mem_take hm)
      obtain ⟨i, hi⟩ := List.mem_iff_getElem?.1 hm2
      exact h i x hi

theorem Kp.thenB {S : Nat → Obj → Prop} {w w1 w2 : World} (h : Kp S w w1) (hb : Below w.heap.size w1 w2) : Kp S w w2 :=
  ⟨hb.os.trans h.os, hb.tape.trans h.tape, hb.output.trans h.output, Nat.le_trans h.size hb.size, fun i o ho hn => (hb.block i (lt_of_heap ho)).trans (h.same i o ho hn)⟩
theorem Ow.set {w : World} {B n : Nat} {g : Nat} {l : List Nat} (h : Ow w B n (some ⟨g, 0, none⟩) l) (j x : Nat) : Ow (w.setCell ⟨g, j, none⟩ (.int .u64 (x : Int))) B n (some ⟨g, 0, none⟩) (l.set j x) := by
  refine ⟨by rw [List.length_set]; exact h.len, ?_⟩
  rcases h.at' with h0 | ⟨g', hg, h1, hm⟩
  · exact .inl h0
  · cases hg
    exact .inr ⟨g, rfl, h1, hm.set j x⟩
theorem Ow.get {w : World} {B n : Nat} {a : Option Addr} {l : List Nat} (h : Ow w B n a l) {j : Nat} (hj : j < n) : ∃ g, a = some ⟨g, 0, none⟩ ∧ B ≤ g ∧ w.cell? ⟨g, j, none⟩ = some (.int .u64 (at0 l j : Nat)) ∧ w.frozen? ⟨g, j, none⟩ = false := by
  rcases h.at' with h0 | ⟨g, rfl, h1, hm⟩
  · omega
  · exact ⟨g, rfl, h1, hm.cell (by rw [h.len]; exact hj), hm.frozen j⟩

def numC (n B : Int) (k L : Nat) : Int := if 1 ≤ B ∧ B ≤ 64 then takeC n k L else 11
def numK (n B : Int) (k L : Nat) : Nat := if 1 ≤ B ∧ B ≤ 64 then takeK n k L else k
def numL (n B : Int) (k : Nat) (ws : List Nat) : List Nat := if 1 ≤ B ∧ B ≤ 64 then (takeL n k ws).map (cutN B.toNat) else []

def NumPost (w : World) (t b k : Nat) (n B : Int) (ws : List Nat) (e : Ending) (w' : World) : Prop :=
  ∃ a m c v, e = .returned (.tuple #[.slice a m c, v]) ∧ Ow w' w.heap.size m a (numL n B k ws) ∧ IsE w' (numC n B k ws.length) v ∧ Tp w' t b (numK n B k ws.length) ws.length ∧ Kp (fun j _ => j = t) w w'

theorem takeC_zero {n : Int} {k L : Nat} (h : takeC n k L = 0) : ∃ m : Nat, n = m ∧ k + m ≤ L := by
  unfold takeC at h
  split at h
  · omega
  · split at h
    · omega
    · exact ⟨n.toNat, by omega, by omega⟩
theorem takeC_ne {n : Int} {k L : Nat} (h : takeC n k L ≠ 0) (ws : List Nat) (hw : ws.length = L) : takeL n k ws = [] ∧ takeK n k L = k := by
  subst hw
  unfold takeC at h
  unfold takeL takeK
  split at h
  · rename_i h1; simp [h1]
  · rename_i h1
    split at h
    · rename_i h2; simp [h1, h2]
    · exact absurd rfl h

set_option maxHeartbeats 2000000 in
theorem num_shape (t b k : Nat) (n B : Int) (ws : List Nat) (w : World) (ht : Tp w t b k ws.length) (hB : ¬ (1 ≤ B ∧ B ≤ 64)) :
    Calls Tryd.prog 21 #[.pointer (some ⟨t, 0, none⟩), .int .i64 n, .int .i64 B] w (NumPost w t b k n B ws) := by
  have HW := hide1 (wrong_any 11 w rfl)
  have HP : Shy (numC n B k ws.length = 11 ∧ numK n B k ws.length = k ∧ numL n B k ws = []) := ⟨by simp only [numC, numK, numL, if_neg hB, and_self]⟩
  have HT := hide1 ht
  clear ht
  by_cases h1 : B < 1
  · clear hB
    go_enter Tryd.func21, Tryd.ntmps21
    go_wp2_with fail
    refine HW.out.mono ?_
    rintro e w1 ⟨v, rfl, rfl, h3, h4⟩
    have H := hide1 (And.intro h3 h4)
    clear h3 h4
    go_wp2
    go_ret2
    exact ⟨none, 0, 0, _, rfl, by rw [HP.out.2.2]; exact Ow.nil _ _ _, by rw [HP.out.1]; exact .inr ⟨rfl, _, rfl, H.out.1⟩, by rw [HP.out.2.1]; exact HT.out.below H.out.2 HT.out.lt, Kp.ofBelow H.out.2⟩
  · have h2 : 64 < B := by omega
    clear hB
    go_enter Tryd.func21, Tryd.ntmps21
    go_wp2_with fail
    refine HW.out.mono ?_
    rintro e w1 ⟨v, rfl, rfl, h3, h4⟩
    have H := hide1 (And.intro h3 h4)
    clear h3 h4
    go_wp2
    go_ret2
    exact ⟨none, 0, 0, _, rfl, by rw [HP.out.2.2]; exact Ow.nil _ _ _, by rw [HP.out.1]; exact .inr ⟨rfl, _, rfl, H.out.1⟩, by rw [HP.out.2.1]; exact HT.out.below H.out.2 HT.out.lt, Kp.ofBelow H.out.2⟩

set_option maxHeartbeats 4000000 in
theorem num_good (t b k : Nat) (n : Int) (B : Nat) (ws : List Nat) (w : World) (ht : Tp w t b k ws.length) (hr : w.heap[b]? = some (wrow ws)) (hs : Small ws) (hL : ws.length ≤ 1048576) (hB : 1 ≤ B ∧ B ≤ 64) :
    Calls Tryd.prog 21 #[.pointer (some ⟨t, 0, none⟩), .int .i64 n, .int .i64 (B : Int)] w (NumPost w t b k n B ws) := by
  have hB' : 1 ≤ (B : Int) ∧ (B : Int) ≤ 64 := by omega
  have HP : Shy (numC n B k ws.length = takeC n k ws.length ∧ numK n B k ws.length = takeK n k ws.length ∧ numL n B k ws = (takeL n k ws).map (cutN B)) := ⟨by simp only [numC, numK, numL, if_pos hB', and_self, Int.toNat_natCast]⟩
  have HK := hide1 (take_any t b k n ws w ht hr hL)
  have HSm := hide1 (small_take hs n k)
  have htl := ht.lt
  by_cases h0 : takeC n k ws.length = 0
  · obtain ⟨m0, hm1, hm0⟩ := takeC_zero h0
    clear hm1
    obtain ⟨M, hM⟩ : ∃ M, M = 2 ^ B - 1 := ⟨_, rfl⟩
    have hsh : (18446744073709551615 : Int) / 2 ^ (64 - B) = (M : Int) := by
      rw [hM, ← mask_eq hB.2, Int.natCast_ediv, Int.natCast_pow]
      rfl
    have HM : Shy (M = 2 ^ B - 1 ∧ B ≤ 64) := ⟨hM, hB.2⟩
    have HLen : Shy ((takeL n k ws).length ≤ 1048576) := ⟨by
      unfold takeL
      split
      · simp
      · split
        · simp
        · simp; omega⟩
    have H0 : Shy (takeC n k ws.length = 0) := ⟨h0⟩
    clear ht hr hs hL h0 hm0 hM
    obtain ⟨b1, b2⟩ := hB'
    have b1' : ¬ (B : Int) < 1 := by omega
    have b2' : ¬ 64 < (B : Int) := by omega
    go_enter Tryd.func21, Tryd.ntmps21
    go_wp2_with fail
    refine HK.out.mono ?_
    rintro e w1 ⟨a, m, c, v, rfl, h3, h4, h5, h6⟩
    rcases h4 with ⟨_, rfl⟩ | ⟨h4, _⟩
    rotate_left
    · rw [H0.out] at h4; simp at h4
    generalize takeL n k ws = l at *
    have hlm := h3.len
    have HLm : Shy (m ≤ 1048576) := ⟨by have := HLen.out; omega⟩
    have H := hide1 (And.intro h5 h6)
    have H3 := hide1 h3
    have Hsz : Shy (l.length = m) := ⟨hlm⟩
    clear h3 h5 h6 hlm HK
    go_wp2
    go_loopw [33] (fun i wr => ∃ j : Nat, j ≤ m ∧ i = .int .i64 (j : Int) ∧ Ow wr w.heap.size m a (cutTo B j l) ∧ Below w.heap.size w1 wr) (fun i _ => m - (intOf i).toNat)
    case atStart => exact ⟨0, Nat.zero_le _, rfl, by rw [cutTo_zero]; exact H3.out, Below.refl _ _⟩
    case round =>
      obtain ⟨j, hj, rfl, hrow, hbe⟩ := hrel
      have hmi := HLm.out
      by_cases hlt : j < m
      · obtain ⟨g, rfl, hg, hc, hf⟩ := hrow.get hlt
        rw [cutTo_at (by rw [Hsz.out]; exact hlt)] at hc
        have HR := hide1 hrow
        have HE := hide1 hbe
        have Hg := hide1 hg
        have HST : Shy ((cutTo B j l).set j (cutN B (at0 l j)) = cutTo B (j + 1) l) := ⟨cutTo_step (by rw [Hsz.out]; exact hlt)⟩
        have hand := and_cut (HSm.out.at0 j) HM.out.2 HM.out.1
        generalize at0 l j = x at *
        clear hrow hbe hg
        go_wp2
        go_roundw
        case rel => exact ⟨j + 1, by omega, by go_num, by rw [← HST.out]; exact HR.out.set j _, HE.out.setCell Hg.out _⟩
        case measure => simp [intOf]; omega
      · have : j = m := by omega
        subst this
        have HR := hide1 hrow
        have HE := hide1 hbe
        clear hrow hbe
        go_wp2
        go_ret2
        refine ⟨a, j, c, _, rfl, ?_, ?_, ?_, H.out.2.thenB HE.out⟩
        · rw [HP.out.2.2, ← cutTo_all, Hsz.out]; exact HR.out
        · rw [HP.out.1, H0.out]; exact IsE.nil _
        · rw [HP.out.2.1]; exact H.out.1.below HE.out htl
  · have h0' : (takeC n k ws.length == 0) = false := by simpa using h0
    have HE := hide1 (takeC_ne h0 ws rfl)
    have H0 := hide1 h0'
    clear ht hr hs hL h0
    obtain ⟨b1, b2⟩ := hB'
    have b1' : ¬ (B : Int) < 1 := by omega
    have b2' : ¬ 64 < (B : Int) := by omega
    go_enter Tryd.func21, Tryd.ntmps21
    go_wp2_with fail
    refine HK.out.mono ?_
    rintro e w1 ⟨a, m, c, v, rfl, h3, h4, h5, h6⟩
    rcases h4 with ⟨h4, _⟩ | ⟨_, be, rfl, hrt⟩
    · rw [h4] at h0'; simp at h0'
    have H := hide1 (And.intro hrt (And.intro h5 h6))
    clear h3 h5 h6 hrt h0'
    go_wp2
    go_ret2
    refine ⟨none, 0, 0, _, rfl, ?_, ?_, ?_, H.out.2.2⟩
    · rw [HP.out.2.2, HE.out.1]; exact Ow.nil _ _ _
    · rw [HP.out.1]; exact .inr ⟨H0.out, _, rfl, H.out.1⟩
    · rw [HP.out.2.1]; exact H.out.2.1

end Go.Proofs.YtdkakodlkbkhnaaDoor
