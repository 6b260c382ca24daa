/- Pure: what both know of each other's numbers. Pure: a frame at an end that knows the other one, and is known. -/
import Derived.Test.YtcadlcpccemkbaaMEqLa
namespace Go.Proofs.Ytcadlcpccemkbaa
set_option maxRecDepth 100000

/- x gets, y sends -/
structure Mu (x y : Ls) (wx : List ByteArray) : Prop where
  sur : y.sure = true → y.peer = x.own → x.peer = y.own
  num : x.peer = y.own → y.peer = x.own → y.k ≤ x.a ∧ x.a ≤ y.k + y.A.length ∧ ∀ p ∈ x.l, p.1 ≤ y.k + y.A.length
  frm : ∀ t ∈ wx, Fn Any x y t

theorem flush_sum {N : Nat} {y : Ls} (h : y.Ok N) : y.k + y.A.length ≤ y.flush.k + y.flush.A.length := by
  obtain ⟨e1, _, _⟩ := Ls.mv_A h
  change y.k + y.A.length ≤ y.k + (y.A ++ y.Q.take y.mvn).length
  omega
theorem Mu.told {N : Nat} {x y : Ls} {wx F : List ByteArray} (h : Mu x y wx) (hy : y.Ok N) (hF : ∀ t ∈ F, Fn Any x y.flush t) : Mu x y.flush (put60 wx F) := by
  have hs := flush_sum hy
  refine ⟨h.sur, fun h1 h2 => ?_, fun t ht => ?_⟩
  · obtain ⟨a1, a2, a3⟩ := h.num h1 h2
    exact ⟨a1, Nat.le_trans a2 hs, fun p hp => Nat.le_trans (a3 p hp) hs⟩
  · rcases mem_put60 ht with ht | ht
    · exact (h.frm t ht).same rfl rfl rfl (Nat.le_refl _) hs
    · exact hF t ht
theorem Mu.tells {x y : Ls} {wx : List ByteArray} (h : Mu x y wx) : Mu x.flush y wx := ⟨h.sur, h.num, fun t ht => (h.frm t ht).same rfl rfl rfl (Nat.le_refl _) (Nat.le_refl _)⟩
theorem send_same (x : Ls) (b : ByteArray) : (x.send b).own = x.own ∧ (x.send b).peer = x.peer ∧ (x.send b).sure = x.sure ∧ (x.send b).a = x.a ∧ (x.send b).l = x.l ∧ (x.send b).k = x.k ∧ (x.send b).A = x.A := by
  unfold Ls.send
  split <;> exact ⟨rfl, rfl, rfl, rfl, rfl, rfl, rfl⟩
theorem Mu.sends {x y : Ls} {wx : List ByteArray} (h : Mu x y wx) (b : ByteArray) : Mu (x.send b) y wx := by
  obtain ⟨e1, e2, e3, e4, e5, e6, e7⟩ := send_same x b
  exact ⟨fun h1 h2 => by rw [e2]; exact h.sur h1 (e1 ▸ h2), fun h1 h2 => by rw [e4, e5]; exact h.num (e2 ▸ h1) (e1 ▸ h2), fun t ht => (h.frm t ht).same e1 rfl rfl (Nat.le_refl _) (Nat.le_refl _)⟩
theorem Mu.sent {x y : Ls} {wx : List ByteArray} (h : Mu x y wx) (b : ByteArray) : Mu x (y.send b) wx := by
  obtain ⟨e1, e2, e3, e4, e5, e6, e7⟩ := send_same y b
  exact ⟨fun h1 h2 => by rw [e1]; exact h.sur (e3 ▸ h1) (e2 ▸ h2), fun h1 h2 => by rw [e6, e7]; exact h.num (e1 ▸ h1) (e2 ▸ h2), fun t ht => (h.frm t ht).same rfl e1 e2 (Nat.le_of_eq e4.symm) (by rw [e6, e7]; exact Nat.le_refl _)⟩
theorem Mu.less {x y : Ls} {wx wx' : List ByteArray} (h : Mu x y wx) (hw : ∀ t ∈ wx', t ∈ wx) : Mu x y wx' := ⟨h.sur, h.num, fun t ht => h.frm t (hw t ht)⟩
theorem Mu.anew {x y : Ls} {wx : List ByteArray} (h : Mu x y wx) (hp : y.peer ≤ x.own) : Mu (Ls.new (x.own + 1)) y wx := by
  refine ⟨fun _ h2 => ?_, fun _ h2 => ?_, fun t ht => ?_⟩
  · change y.peer = x.own + 1 at h2; omega
  · change y.peer = x.own + 1 at h2; omega
  · obtain ⟨k, o, p, q, a, b, e, hf, h0, h1, h2, h3, h4⟩ := h.frm t ht
    exact ⟨k, o, p, q, a, b, e, hf, h0, h1, Nat.le_succ_of_le h2, h3, fun _ _ e3 => (by change y.peer = x.own + 1 at e3; omega)⟩
theorem Mu.anews {x y : Ls} {wx : List ByteArray} (h : Mu x y wx) (hp : x.peer ≤ y.own) : Mu x (Ls.new (y.own + 1)) wx := by
  refine ⟨fun h1 => ?_, fun h1 => ?_, fun t ht => ?_⟩
  · cases h1
  · change x.peer = y.own + 1 at h1; omega
  · obtain ⟨k, o, p, q, a, b, e, hf, h0, h1, h2, h3, h4⟩ := h.frm t ht
    exact ⟨k, o, p, q, a, b, e, hf, h0, Nat.le_succ_of_le h1, h2, fun e => (by change o = y.own + 1 at e; omega), fun e => (by change o = y.own + 1 at e; omega)⟩
theorem meet_old {x : Ls} {o : Nat} (h : o = x.peer) : x.meet o = x := by rw [Ls.meet, if_pos h]
theorem meet_new {x : Ls} {o : Nat} (h : o ≠ x.peer) : (x.meet o).a = 0 ∧ (x.meet o).l = [] ∧ (x.meet o).k = 0 ∧ (x.meet o).A = [] ∧ (x.meet o).sure = false := by
  rw [Ls.meet, if_neg h]
  exact ⟨rfl, rfl, rfl, rfl, rfl⟩

/- x gets a frame -/
theorem Mu.arrives {x y : Ls} {wx : List ByteArray} (h : Mu x y wx) (hns : y.sure = false → y.k = 0) (_ : y.peer ≤ x.own) {t : ByteArray} (ht : Fn Any x y t) : Mu (x.recvX t) y wx := by
  obtain ⟨k, o, p, q, a, b, rfl, hf, _, h1, h2, h3, h4⟩ := ht
  rw [recvX_tx hf]
  obtain ⟨e1, e2⟩ := takeX_own x k o p q a b
  refine ⟨fun g1 g2 => ?_, fun g1 g2 => ?_, fun s hs => (h.frm s hs).same e1 rfl rfl (Nat.le_refl _) (Nat.le_refl _)⟩
  · have g3 := h.sur g1 (e1 ▸ g2)
    rw [e2]
    split
    · exact g3
    · omega
  · rw [e1] at g2
    by_cases hs : o < x.peer
    · rw [e2, if_pos hs] at g1
      rw [Ls.takeX, if_pos hs]
      exact h.num g1 g2
    · rw [e2, if_neg hs] at g1
      have hm : y.k ≤ (x.meet o).a ∧ (x.meet o).a ≤ y.k + y.A.length ∧ ∀ p ∈ (x.meet o).l, p.1 ≤ y.k + y.A.length := by
        by_cases hp : o = x.peer
        · rw [meet_old hp]
          exact h.num (hp ▸ g1) g2
        · obtain ⟨m1, m2, _, _, _⟩ := meet_new hp
          rw [m1, m2]
          have hsu : y.sure = false := by
            cases e : y.sure with
            | false => rfl
            | true => exact absurd (g1.trans (h.sur e g2).symm) hp
          exact ⟨by rw [hns hsu]; exact Nat.le_refl _, Nat.zero_le _, fun p hp => by simp at hp⟩
      rw [Ls.takeX, if_neg hs]
      by_cases hp : p ≠ x.own
      · rw [if_pos hp]
        exact hm
      · rw [if_neg hp]
        have hpx : p = x.own := by omega
        unfold Ls.openX
        by_cases k1 : k = 1
        · rw [if_pos k1]
          exact hm
        · rw [if_neg k1]
          by_cases k3 : akC ((x.meet o).sured k).k ((x.meet o).sured k).A a ≠ 0 ∨ k = 3
          · rw [if_pos k3]
            exact hm
          · rw [if_neg k3]
            have hk2 : k = 2 := by have := hf.k; omega
            obtain ⟨_, _, d3⟩ := h4 g1 hpx (by have := h3 g1; omega) k1
            obtain ⟨u1, u2⟩ := tkA_upto (b := b) hm.2.2 (d3 hk2) hm.2.1
            exact ⟨Nat.le_trans hm.1 (tkA_le _ _ _ _), u1, u2⟩
theorem takeX_keeps (y : Ls) (k o p q a : Nat) (b : ByteArray) (hp : (y.takeX k o p q a b).peer = y.peer) : y.a ≤ (y.takeX k o p q a b).a ∧ y.k + y.A.length ≤ (y.takeX k o p q a b).k + (y.takeX k o p q a b).A.length := by
  obtain ⟨_, e2⟩ := takeX_own y k o p q a b
  rw [hp] at e2
  unfold Ls.takeX
  by_cases hs : o < y.peer
  · rw [if_pos hs]
    exact ⟨Nat.le_refl _, Nat.le_refl _⟩
  · rw [if_neg hs] at e2 ⊢
    rw [meet_old e2.symm]
    split
    · exact ⟨Nat.le_refl _, Nat.le_refl _⟩
    · unfold Ls.openX
      split
      · exact ⟨Nat.le_refl _, Nat.le_refl _⟩
      · split
        · exact ⟨Nat.le_refl _, Nat.le_of_eq (ack_len (k := y.k) (A := y.A) a).symm⟩
        · exact ⟨tkA_le _ _ _ _, Nat.le_of_eq (ack_len (k := y.k) (A := y.A) a).symm⟩
/- y gets a frame -/
theorem Mu.taken {x y : Ls} {wx : List ByteArray} (h : Mu x y wx) (hpx : x.peer ≤ y.own) (hz : x.peer = y.own → y.peer ≠ x.own → x.a = 0 ∧ x.l = []) {t : ByteArray} (ht : Fn Any y x t) : Mu x (y.recvX t) wx := by
  obtain ⟨k, o, p, q, a, b, rfl, hf, _, h1, h2, h3, h4⟩ := ht
  rw [recvX_tx hf]
  obtain ⟨e1, e2⟩ := takeX_own y k o p q a b
  have hk := takeX_keeps y k o p q a b
  refine ⟨fun g1 g2 => ?_, fun g1 g2 => ?_, fun s hs => ?_⟩
  · rw [e1]
    rw [Ls.takeX] at g1 g2
    by_cases hs : o < y.peer
    · rw [if_pos hs] at g1 g2
      exact h.sur g1 g2
    · rw [if_neg hs] at g1 g2
      by_cases hp : p ≠ y.own
      · rw [if_pos hp] at g1 g2
        by_cases ho : o = y.peer
        · rw [meet_old ho] at g1 g2
          exact h.sur g1 g2
        · obtain ⟨_, _, _, _, m5⟩ := meet_new ho
          change (y.meet o).sure = true at g1
          rw [m5] at g1
          cases g1
      · rw [if_neg hp] at g2
        have ho : o = x.own := by
          have e3 := (openX_own ((y.meet o).sured k) k q a b).2
          rw [e3] at g2
          exact (y.meet_peer o).symm.trans g2
        have := h3 ho
        omega
  · rw [e1] at g1
    rw [e2] at g2
    by_cases hs : o < y.peer
    · rw [if_pos hs] at g2
      rw [Ls.takeX, if_pos hs]
      exact h.num g1 g2
    · rw [if_neg hs] at g2
      have hm : (y.meet o).k ≤ x.a ∧ x.a ≤ (y.meet o).k + (y.meet o).A.length ∧ ∀ p ∈ x.l, p.1 ≤ (y.meet o).k + (y.meet o).A.length := by
        by_cases hp : o = y.peer
        · rw [meet_old hp]
          exact h.num g1 (hp ▸ g2)
        · obtain ⟨_, _, m3, m4, _⟩ := meet_new hp
          obtain ⟨z1, z2⟩ := hz g1 (fun e => hp (g2.trans e.symm))
          rw [m3, m4, z1, z2]
          exact ⟨Nat.le_refl _, Nat.zero_le _, fun p hp => by simp at hp⟩
      rw [Ls.takeX, if_neg hs]
      by_cases hp : p ≠ y.own
      · rw [if_pos hp]
        exact hm
      · rw [if_neg hp]
        have hpy : p = y.own := by omega
        unfold Ls.openX
        by_cases k1 : k = 1
        · rw [if_pos k1]
          exact hm
        · rw [if_neg k1]
          obtain ⟨d1, d2, _⟩ := h4 g2 hpy (g1.trans (by rfl)) k1
          have hs2 := ack_len (k := (y.meet o).k) (A := (y.meet o).A) a
          have hk2 : akK (y.meet o).k (y.meet o).A a ≤ x.a := by
            unfold akK
            split
            · omega
            · exact hm.1
          have hh : akK (y.meet o).k (y.meet o).A a ≤ x.a ∧ x.a ≤ akK (y.meet o).k (y.meet o).A a + (akL (y.meet o).k (y.meet o).A a).length ∧ ∀ p ∈ x.l, p.1 ≤ akK (y.meet o).k (y.meet o).A a + (akL (y.meet o).k (y.meet o).A a).length := by
            rw [hs2]
            exact ⟨hk2, hm.2⟩
          split
          · exact hh
          · exact hh
  · by_cases hp : (y.takeX k o p q a b).peer = y.peer
    · exact (h.frm s hs).same rfl e1 hp (hk hp).1 (hk hp).2
    · have hlt : y.peer < o ∧ (y.takeX k o p q a b).peer = o := by
        rw [e2] at hp ⊢
        split at hp
        · exact absurd rfl hp
        · rename_i h9
          rw [if_neg h9]
          exact ⟨by omega, rfl⟩
      obtain ⟨k', o', p', q', a', b', e', hf', g0, g1, g2, g3, g4⟩ := h.frm s hs
      refine ⟨k', o', p', q', a', b', e', hf', g0, e1 ▸ g1, g2, fun eo => ?_, fun eo ep => ?_⟩
      · have := g3 (e1 ▸ eo)
        rw [hlt.2]
        omega
      · have := g3 (e1 ▸ eo)
        omega

end Go.Proofs.Ytcadlcpccemkbaa

namespace Go.Proofs.Ytcadlcpccemkbaa
set_option maxRecDepth 100000

def isD (t : ByteArray) : Bool := X.hdK t == 2
def ackOf (t : ByteArray) : Nat := X.hdN t 13
def numOf (t : ByteArray) : Nat := X.hdN t 9
theorem tx_k {k o p q a : Nat} {b : ByteArray} (h : Fit k o p q a b) : X.hdK (tx k o p q a b) = k := X.enc_hdK _ _ _ _ _ _ (by have := h.k; omega)
theorem tx_q {k o p q a : Nat} {b : ByteArray} (h : Fit k o p q a b) : numOf (tx k o p q a b) = q := X.enc_hd9 _ _ _ _ _ _ h.q
theorem tx_a {k o p q a : Nat} {b : ByteArray} (h : Fit k o p q a b) : ackOf (tx k o p q a b) = a := X.enc_hd13 _ _ _ _ _ _ h.a

def PG (y x : Ls) (k o p : Nat) : Prop := o = y.own ∧ p = x.own ∧ k ≠ 1
/- what a frame does -/
structure Rg (x : Ls) (t : ByteArray) (z : Ls) : Prop where
  own : z.own = x.own
  peer : z.peer = x.peer
  sure : z.sure = true
  owed : z.owed = (x.owed || isD t)
  Q : z.Q = x.Q
  sum : z.k + z.A.length = x.k + x.A.length
  k : x.k ≤ z.k
  ack : ackOf t ≤ z.k + 1
  a : x.a ≤ z.a
  num : isD t = true → numOf t ≤ x.a + 1 → numOf t ≤ z.a
theorem recv_g {N : Nat} {x y : Ls} {t : ByteArray} (hx : x.Ok N) (hp : x.peer = y.own) (hyp : y.peer = x.own) (hn : y.a ≤ x.k + x.A.length) (ht : Fn (PG y x) x y t) : Rg x t (x.recvX t) := by
  obtain ⟨k, o, p, q, a, b, rfl, hf, ⟨ho, hpo, hk1⟩, h1, h2, h3, h4⟩ := ht
  obtain ⟨d1, d2, d3⟩ := h4 ho hpo hyp hk1
  have hk := hf.k
  have hc : akC x.k x.A a = 0 := by unfold akC; rw [if_neg (by omega)]
  have hKK : akK x.k x.A a = max x.k (a - 1) := by unfold akK; rw [if_pos hc]
  have hsum := ack_len (k := x.k) (A := x.A) a
  have e : x.recvX (tx k o p q a b) = (x.sured k).openX k q a b := by
    rw [recvX_tx hf, Ls.takeX, if_neg (by omega), if_neg (by omega), meet_old (by omega)]
  rw [e]
  have hD : isD (tx k o p q a b) = decide (k ≠ 3) := by
    unfold isD
    rw [tx_k hf]
    rcases (show k = 2 ∨ k = 3 by omega) with rfl | rfl <;> rfl
  have hc' : akC (x.sured k).k (x.sured k).A a = 0 := hc
  unfold Ls.openX
  rw [if_neg hk1]
  by_cases h3k : k = 3
  · rw [if_pos (.inr h3k)]
    exact ⟨rfl, rfl, rfl, by rw [hD]; rfl, rfl, hsum, by change x.k ≤ akK x.k x.A a; omega, by rw [tx_a hf]; change a ≤ akK x.k x.A a + 1; omega, Nat.le_refl _, fun e => by rw [hD, h3k] at e; simp at e⟩
  · rw [if_neg (by rw [hc']; omega)]
    exact ⟨rfl, rfl, rfl, by rw [hD]; rfl, rfl, hsum, by change x.k ≤ akK x.k x.A a; omega, by rw [tx_a hf]; change a ≤ akK x.k x.A a + 1; omega, tkA_le _ _ _ _, fun _ hq => by
      rw [tx_q hf] at hq ⊢
      exact tkA_at hx.hd hq⟩

/- what Flush leaves, and tells -/
theorem flush_len (z : Ls) : z.flush.k + z.flush.A.length + z.flush.Q.length = z.k + z.A.length + z.Q.length ∧ z.flush.Q.length ≤ z.Q.length := by
  have h3 : z.mvn ≤ z.Q.length := Nat.min_le_right _ _
  change z.k + (z.A ++ z.Q.take z.mvn).length + (z.Q.drop z.mvn).length = _ ∧ (z.Q.drop z.mvn).length ≤ _
  rw [List.length_append, List.length_take, List.length_drop]
  omega
theorem flush_full {N : Nat} {z : Ls} (h : z.Ok N) : z.flush.A.length = 16 ∨ z.flush.Q = [] := by
  have h3 : z.mvn = min (16 - z.A.length) z.Q.length := rfl
  have hA := h.A16
  by_cases hq : z.Q.length ≤ 16 - z.A.length
  · right
    change z.Q.drop z.mvn = []
    exact List.drop_eq_nil_of_le (by omega)
  · left
    change (z.A ++ z.Q.take z.mvn).length = 16
    rw [List.length_append, List.length_take]
    omega
theorem pln_isD {N : Nat} {z : Ls} (h : z.Ok N) (hN : N + 1000 < 4294967296) (hs : z.sure = true) : isD z.pln = false := by
  have ha := h.aN
  unfold Ls.pln isD
  rw [if_pos hs, tx_k ⟨chk_quiet h.own0 (h.sp hs), h.own, h.peer, by decide, by omega⟩]
  rfl
theorem flushF_len2 {N : Nat} {z : Ls} (h : z.Ok N) (hN : N + 1000 < 4294967296) (hs : z.sure = true) (d : Bool) (ho : z.owed = d) : z.flushF.length + z.flush.Q.length ≤ z.Q.length + (if d then 1 else 0) ∧ z.flushF.countP isD + z.flush.Q.length ≤ z.Q.length := by
  have h3 : z.mvn ≤ z.Q.length := Nat.min_le_right _ _
  have hq : z.flush.Q.length = z.Q.length - z.mvn := by change (z.Q.drop z.mvn).length = _; rw [List.length_drop]
  have hl : z.mvd.length = z.mvn := by rw [Ls.mvd, pend_length, List.length_take]; omega
  unfold Ls.flushF
  by_cases hm : z.mvd = []
  · rw [hm] at hl
    have hl0 : z.mvn = 0 := hl.symm
    cases d with
    | false =>
      rw [if_pos ⟨hm, ho⟩]
      simp
      omega
    | true =>
      rw [if_neg (by rw [ho]; simp), Ls.tell, if_pos hm]
      have := pln_isD h.mv hN (z := z.mv) hs
      simp [this]
      omega
  · rw [if_neg (fun e => hm e.1), Ls.tell, if_neg hm]
    have hc := List.countP_le_length (p := isD) (l := z.mvd.map z.mv.frm)
    rw [List.length_map] at hc ⊢
    refine ⟨?_, by omega⟩
    split <;> omega
def tickL (z : Ls) : List ByteArray := z.tell (pend (z.k + 1) z.A)
theorem tickF_eq (z : Ls) : z.tickF = tickL z.flush := rfl
theorem tickL_len {N : Nat} {z : Ls} (h : z.Ok N) : (tickL z).length ≤ 16 ∧ 1 ≤ (tickL z).length := by
  have hA := h.A16
  unfold tickL Ls.tell
  split
  · simp
  · rename_i hm
    rw [List.length_map, pend_length]
    refine ⟨hA, ?_⟩
    cases e : z.A with
    | nil => rw [e] at hm; exact absurd rfl hm
    | cons => simp

end Go.Proofs.Ytcadlcpccemkbaa
