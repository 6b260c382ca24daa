/- Pure: what comes is what was sent, whatever happens between two ends. Pure: a frame arrives. -/
import Derived.Test.YtcadlcpccemkbaaEg
namespace Go.Proofs.Ytcadlcpccemkbaa
set_option maxRecDepth 100000

/- a frame on its way to x, made by y, of what y sent since both last started -/
def Frm (x y : Ls) (sy : List ByteArray) (t : ByteArray) : Prop :=
  ∃ k o p q a b, t = tx k o p q a b ∧ Fit k o p q a b ∧ o ≤ y.own ∧ p ≤ x.own ∧ (o = y.own → p ≤ y.peer) ∧ (o = y.own → p = y.peer → k = 2 → 1 ≤ q ∧ sy[q - 1]? = some b)
def Held (sy : List ByteArray) (l : List (Nat × ByteArray)) : Prop := ∀ p ∈ l, 1 ≤ p.1 ∧ sy[p.1 - 1]? = some p.2
/- what x, that gets, has of y, that sends -/
structure Pr (x y : Ls) (way sy gx : List ByteArray) : Prop where
  peer : x.peer ≤ y.own
  way : ∀ t ∈ way, Frm x y sy t
  got : x.peer = y.own → (y.peer = x.own ∧ gx = sy.take x.a ∧ x.a ≤ sy.length ∧ Held sy x.l) ∨ (y.peer ≠ x.own ∧ gx = [] ∧ x.a = 0 ∧ x.l = [])
structure Sn (y : Ls) (sy : List ByteArray) : Prop where
  le : y.k ≤ sy.length
  eq : sy.drop y.k = y.A ++ y.Q

theorem Frm.size {x y : Ls} {sy : List ByteArray} {t : ByteArray} (h : Frm x y sy t) : t.size ≤ 281474976710656 := by
  obtain ⟨k, o, p, q, a, b, rfl, hf, _⟩ := h
  obtain ⟨hz, _⟩ := X.chk_size hf.ok
  rw [tx, X.enc_size]
  omega
theorem Sn.mv {y : Ls} {sy : List ByteArray} (h : Sn y sy) : Sn y.mv sy := by
  refine ⟨h.le, ?_⟩
  change sy.drop y.k = (y.A ++ y.Q.take y.mvn) ++ y.Q.drop y.mvn
  rw [List.append_assoc, List.take_append_drop]
  exact h.eq
theorem Sn.flush {y : Ls} {sy : List ByteArray} (h : Sn y sy) : Sn y.flush sy := ⟨h.mv.le, h.mv.eq⟩
theorem Sn.send {y : Ls} {sy : List ByteArray} (h : Sn y sy) {b : ByteArray} (hc : y.sendC b = 0) : Sn (y.send b) (sy ++ [b]) := by
  rw [Ls.send, if_pos hc]
  refine ⟨by have := h.le; simp only [List.length_append]; omega, ?_⟩
  change (sy ++ [b]).drop y.k = y.A ++ (y.Q ++ [b])
  rw [List.drop_append_of_le_length h.le, h.eq, List.append_assoc]
theorem Sn.at {y : Ls} {sy : List ByteArray} (h : Sn y sy) (j : Nat) : sy[y.k + j]? = (y.A ++ y.Q)[j]? := by
  rw [← h.eq, List.getElem?_drop]
theorem Sn.acked {y : Ls} {sy : List ByteArray} (h : Sn y sy) (a : Nat) : Sn (y.acked a) sy := by
  have hle := h.le
  have hl := congrArg List.length h.eq
  rw [List.length_drop, List.length_append] at hl
  unfold Ls.acked akK akL
  by_cases hc : akC y.k y.A a = 0
  · have hc' := hc
    unfold akC at hc'
    split at hc'
    · cases hc'
    · rename_i h9
      rw [if_pos hc, if_pos hc]
      refine ⟨by simp only; omega, ?_⟩
      change sy.drop (max y.k (a - 1)) = y.A.drop (a - 1 - y.k) ++ y.Q
      rw [show max y.k (a - 1) = y.k + (a - 1 - y.k) by omega, ← List.drop_drop, h.eq, List.drop_append_of_le_length (by omega)]
  · rw [if_neg hc, if_neg hc]
    exact ⟨h.le, h.eq⟩
theorem mem_pend_at : ∀ {k : Nat} {A : List ByteArray} {p : Nat × ByteArray}, p ∈ pend k A → k ≤ p.1 ∧ A[p.1 - k]? = some p.2
  | _, [], _, h => by simp [pend] at h
  | k, s :: A, p, h => by
    rw [pend] at h
    rcases List.mem_cons.1 h with rfl | h
    · exact ⟨Nat.le_refl _, by simp⟩
    · obtain ⟨h1, h2⟩ := mem_pend_at h
      refine ⟨by omega, ?_⟩
      rw [show p.1 - k = (p.1 - (k + 1)) + 1 by omega, List.getElem?_cons_succ]
      exact h2

/- frames that an end makes -/
theorem tell_frm {N : Nat} {x y : Ls} {sy : List ByteArray} {l : List (Nat × ByteArray)} (hy : y.Ok N) (hN : N + 1000 < 4294967296) (hp : y.peer ≤ x.own) (hl : Fms y l) (hs : ∀ p ∈ l, 1 ≤ p.1 ∧ sy[p.1 - 1]? = some p.2) :
    ∀ t ∈ y.tell l, Frm x y sy t := by
  intro t ht
  have ha := hy.aN
  unfold Ls.tell at ht
  split at ht
  · rw [List.mem_singleton.1 ht]
    unfold Ls.pln
    split
    · rename_i hsu
      exact ⟨3, y.own, y.peer, 0, y.a + 1, ⟨#[]⟩, rfl, ⟨chk_quiet hy.own0 (hy.sp hsu), hy.own, hy.peer, by decide, by omega⟩, Nat.le_refl _, hp, fun _ => Nat.le_refl _, fun _ _ e => (by omega)⟩
    · exact ⟨1, y.own, y.peer, 0, 0, ⟨#[]⟩, rfl, ⟨chk_hello hy.own0, hy.own, hy.peer, by decide, by decide⟩, Nat.le_refl _, hp, fun _ => Nat.le_refl _, fun _ _ e => (by omega)⟩
  · rename_i hne
    obtain ⟨p, hpm, rfl⟩ := List.mem_map.1 ht
    obtain ⟨h1, h2, h3⟩ := hl.num p hpm
    exact ⟨2, y.own, y.peer, p.1, y.a + 1, p.2, rfl, ⟨chk_data hy.own0 (hl.peer hne) h1 h3, hy.own, hy.peer, h2, by omega⟩, Nat.le_refl _, hp, fun _ => Nat.le_refl _, fun _ _ _ => hs p hpm⟩
theorem tick_frm {N : Nat} {x y : Ls} {sy : List ByteArray} (hy : y.Ok N) (hN : N + 1000 < 4294967296) (hp : y.peer ≤ x.own) (h : Sn y sy) : ∀ t ∈ y.tickF, Frm x y.flush sy t := by
  refine tell_frm (y := y.mv) hy.mv hN hp (Ls.fms_pend hy.mv hN) fun p hpm => ?_
  obtain ⟨h1, h2⟩ := mem_pend_at hpm
  change y.k + 1 ≤ p.1 at h1
  refine ⟨by omega, ?_⟩
  have := h.mv.at (p.1 - (y.k + 1))
  rw [show y.mv.k + (p.1 - (y.k + 1)) = p.1 - 1 by change y.k + _ = _; omega] at this
  rw [this, List.getElem?_append_left (List.getElem?_eq_some_iff.1 h2).1]
  exact h2
theorem flush_frm {N : Nat} {x y : Ls} {sy : List ByteArray} (hy : y.Ok N) (hN : N + 1000 < 4294967296) (hp : y.peer ≤ x.own) (h : Sn y sy) : ∀ t ∈ y.flushF, Frm x y.flush sy t := by
  intro t ht
  unfold Ls.flushF at ht
  split at ht
  · simp at ht
  · refine tell_frm (y := y.mv) hy.mv hN hp (Ls.fms_mvd hy hN) (fun p hpm => ?_) t ht
    obtain ⟨h1, h2⟩ := mem_pend_at hpm
    refine ⟨by omega, ?_⟩
    have := h.at (p.1 - (y.k + 1))
    rw [show y.k + (p.1 - (y.k + 1)) = p.1 - 1 by omega] at this
    rw [this, List.getElem?_append_right (by omega), show p.1 - (y.k + 1) - y.A.length = p.1 - (y.k + y.A.length + 1) by omega]
    have h3 := (List.getElem?_eq_some_iff.1 h2).1
    rw [List.length_take] at h3
    rwa [List.getElem?_take_of_lt (by omega)] at h2
/- frames on their way, an end is another one now -/
theorem Frm.same {x x' y y' : Ls} {sy sy' : List ByteArray} {t : ByteArray} (h : Frm x y sy t) (hx : x.own ≤ x'.own) (ho : y'.own = y.own) (hp : y'.peer = y.peer) (hs : ∀ (j : Nat) (b : ByteArray), sy[j]? = some b → sy'[j]? = some b) : Frm x' y' sy' t := by
  obtain ⟨k, o, p, q, a, b, e, hf, h1, h2, h3, h4⟩ := h
  exact ⟨k, o, p, q, a, b, e, hf, ho ▸ h1, Nat.le_trans h2 hx, fun e => hp ▸ h3 (ho ▸ e), fun e1 e2 e3 => by
    obtain ⟨a1, a2⟩ := h4 (ho ▸ e1) (hp ▸ e2) e3
    exact ⟨a1, hs _ _ a2⟩⟩
theorem mem_put60 {A F : List ByteArray} {t : ByteArray} (h : t ∈ put60 A F) : t ∈ A ∨ t ∈ F := by
  unfold put60 at h
  rcases List.mem_append.1 h with h | h
  · exact .inl h
  · exact .inr (List.mem_of_mem_take h)
/- who sends tells frames -/
theorem Pr.told {x y : Ls} {way sy gx F : List ByteArray} (h : Pr x y way sy gx) (hF : ∀ t ∈ F, Frm x y.flush sy t) : Pr x y.flush (put60 way F) sy gx := by
  refine ⟨h.peer, fun t ht => ?_, h.got⟩
  rcases mem_put60 ht with ht | ht
  · exact (h.way t ht).same (Nat.le_refl _) rfl rfl fun _ _ e => e
  · exact hF t ht
/- who gets tells frames -/
theorem Pr.tells {x y : Ls} {way sy gx : List ByteArray} (h : Pr x y way sy gx) : Pr x.flush y way sy gx :=
  ⟨h.peer, fun t ht => (h.way t ht).same (Nat.le_refl _) rfl rfl fun _ _ e => e, h.got⟩
theorem Pr.sent {x y : Ls} {way sy gx : List ByteArray} (h : Pr x y way sy gx) {b : ByteArray} (hc : y.sendC b = 0) : Pr x (y.send b) way (sy ++ [b]) gx := by
  have e : y.send b = { y with Q := y.Q ++ [b] } := by rw [Ls.send, if_pos hc]
  rw [e]
  refine ⟨h.peer, fun t ht => (h.way t ht).same (Nat.le_refl _) rfl rfl fun j c hj => ?_, fun hp => ?_⟩
  · rw [List.getElem?_append_left (List.getElem?_eq_some_iff.1 hj).1]
    exact hj
  · rcases h.got hp with ⟨h1, h2, h3, h4⟩ | h1
    · refine .inl ⟨h1, by rw [List.take_append_of_le_length h3]; exact h2, by rw [List.length_append]; omega, fun p hp => ?_⟩
      obtain ⟨a1, a2⟩ := h4 p hp
      exact ⟨a1, by rw [List.getElem?_append_left (List.getElem?_eq_some_iff.1 a2).1]; exact a2⟩
    · exact .inr h1
theorem Pr.sends {x y : Ls} {way sy gx : List ByteArray} (h : Pr x y way sy gx) (b : ByteArray) : Pr (x.send b) y way sy gx := by
  unfold Ls.send
  split
  · exact ⟨h.peer, fun t ht => (h.way t ht).same (Nat.le_refl _) rfl rfl fun _ _ e => e, h.got⟩
  · exact h
theorem Pr.less {x y : Ls} {way way' sy gx : List ByteArray} (h : Pr x y way sy gx) (hw : ∀ t ∈ way', t ∈ way) : Pr x y way' sy gx := ⟨h.peer, fun t ht => h.way t (hw t ht), h.got⟩
/- who gets starts anew; who sends does -/
theorem Pr.anew {x y : Ls} {way sy gx : List ByteArray} (h : Pr x y way sy gx) (hy : 0 < y.own) : Pr (Ls.new (x.own + 1)) y way sy [] :=
  ⟨Nat.zero_le _, fun t ht => (h.way t ht).same (Nat.le_succ _) rfl rfl fun _ _ e => e, fun e => by change 0 = y.own at e; omega⟩
theorem Pr.anews {x y : Ls} {way sy gx : List ByteArray} (h : Pr x y way sy gx) : Pr x (Ls.new (y.own + 1)) way [] gx := by
  refine ⟨Nat.le_succ_of_le h.peer, fun t ht => ?_, fun e => ?_⟩
  · obtain ⟨k, o, p, q, a, b, e, hf, h1, h2, h3, h4⟩ := h.way t ht
    exact ⟨k, o, p, q, a, b, e, hf, Nat.le_succ_of_le h1, h2, fun e => (by change o = y.own + 1 at e; omega), fun e => (by change o = y.own + 1 at e; omega)⟩
  · have := h.peer
    change x.peer = y.own + 1 at e
    omega

end Go.Proofs.Ytcadlcpccemkbaa

namespace Go.Proofs.Ytcadlcpccemkbaa
set_option maxRecDepth 100000

theorem Held.ins {sy : List ByteArray} {l : List (Nat × ByteArray)} {q : Nat} {b : ByteArray} (h : Held sy l) (h1 : 1 ≤ q) (h2 : sy[q - 1]? = some b) : Held sy (ins q b l) := fun p hp => by
  rcases mem_ins.1 hp with rfl | hp
  · exact ⟨h1, h2⟩
  · exact h p hp
/- what is told is what was sent behind it -/
theorem told_sent : ∀ {sy : List ByteArray} {l : List (Nat × ByteArray)} {a : Nat}, Held sy l → a ≤ sy.length → sy.take a ++ stO (a + 1) l = sy.take (a + (stO (a + 1) l).length) ∧ a + (stO (a + 1) l).length ≤ sy.length
  | sy, [], a, _, ha => by simp [stO]; exact ha
  | sy, p :: l, a, h, ha => by
    rw [stO]
    split
    · rename_i e
      obtain ⟨h1, h2⟩ := h p (by simp)
      rw [e, Nat.add_sub_cancel] at h2
      have hlt := (List.getElem?_eq_some_iff.1 h2).1
      obtain ⟨i1, i2⟩ := told_sent (l := l) (a := a + 1) (fun q hq => h q (List.mem_cons_of_mem _ hq)) (by omega)
      have e1 : sy.take (a + 1) = sy.take a ++ [p.2] := by
        rw [List.take_add_one, h2]
        rfl
      rw [e1, List.append_assoc] at i1
      refine ⟨?_, by rw [List.length_cons]; omega⟩
      rw [List.length_cons, show a + ((stO (a + 1 + 1) l).length + 1) = a + 1 + (stO (a + 1 + 1) l).length by omega, ← i1]
      rfl
    · simp; exact ha
theorem Held.rest {sy : List ByteArray} {l : List (Nat × ByteArray)} {n : Nat} (h : Held sy l) : Held sy (stR n l) := fun p hp => h p (stR_sub hp)
theorem openX_own (x : Ls) (k q a : Nat) (b : ByteArray) : (x.openX k q a b).own = x.own ∧ (x.openX k q a b).peer = x.peer := by
  unfold Ls.openX
  split
  · exact ⟨rfl, rfl⟩
  · split <;> exact ⟨rfl, rfl⟩
theorem takeX_own (x : Ls) (k o p q a : Nat) (b : ByteArray) : (x.takeX k o p q a b).own = x.own ∧ (x.takeX k o p q a b).peer = if o < x.peer then x.peer else o := by
  unfold Ls.takeX
  split
  · exact ⟨rfl, rfl⟩
  · split
    · exact ⟨x.meet_own o, x.meet_peer o⟩
    · obtain ⟨h1, h2⟩ := openX_own ((x.meet o).sured k) k q a b
      exact ⟨h1.trans (x.meet_own o), h2.trans (x.meet_peer o)⟩

/- what x has behind it; rp: whether all that was begun is gone -/
def gotOf (x x' : Ls) (gx : List ByteArray) : List ByteArray := if x'.peer = x.peer then gx else []
def sntOf (x x' : Ls) (sx : List ByteArray) : List ByteArray := if x'.peer = x.peer then sx else []

theorem Pr.arrives {x y : Ls} {way way' sy gx : List ByteArray} (h : Pr x y way sy gx) (hr : y.peer ≤ x.own) {t : ByteArray} (ht : Frm x y sy t) (hw : ∀ s ∈ way', s ∈ way) : Pr (x.recvX t) y way' sy (gotOf x (x.recvX t) gx ++ x.recvB t) := by
  obtain ⟨k, o, p, q, a, b, rfl, hf, h1, h2, h3, h4⟩ := ht
  rw [recvX_tx hf, recvB_tx hf]
  obtain ⟨e1, e2⟩ := takeX_own x k o p q a b
  unfold gotOf
  rw [e2]
  by_cases hs : o < x.peer
  · rw [if_pos hs] at e2 ⊢
    rw [Ls.takeB, if_pos hs, if_pos rfl, List.append_nil, Ls.takeX, if_pos hs]
    exact ⟨h.peer, fun t ht => (h.way t (hw t ht)).same (Nat.le_refl _) rfl rfl fun _ _ e => e, h.got⟩
  · rw [if_neg hs] at e2 ⊢
    have hway : ∀ s ∈ way', Frm (x.takeX k o p q a b) y sy s := fun s hs' => (h.way s (hw s hs')).same (Nat.le_of_eq e1.symm) rfl rfl fun _ _ e => e
    /- what the end that met o has -/
    have hm : o = y.own → (y.peer = x.own ∧ (if o = x.peer then gx else []) = sy.take (x.meet o).a ∧ (x.meet o).a ≤ sy.length ∧ Held sy (x.meet o).l) ∨ (y.peer ≠ x.own ∧ (if o = x.peer then gx else []) = [] ∧ (x.meet o).a = 0 ∧ (x.meet o).l = []) := fun eo => by
      unfold Ls.meet
      by_cases hp : o = x.peer
      · rw [if_pos hp, if_pos hp]
        exact h.got (hp ▸ eo)
      · rw [if_neg hp, if_neg hp]
        by_cases hy : y.peer = x.own
        · exact .inl ⟨hy, rfl, Nat.zero_le _, fun p hp => by simp at hp⟩
        · exact .inr ⟨hy, rfl, rfl, rfl⟩
    refine ⟨by rw [e2]; exact h1, hway, fun eo => ?_⟩
    rw [e2] at eo
    rw [e1]
    unfold Ls.takeX Ls.takeB
    rw [if_neg hs, if_neg hs]
    by_cases hp : p ≠ x.own
    · rw [if_pos hp, if_pos hp, List.append_nil]
      exact hm eo
    · rw [if_neg hp, if_neg hp]
      have hpx : p = x.own := by omega
      unfold Ls.openX Ls.openB
      by_cases k1 : k = 1
      · rw [if_pos k1, if_pos k1, List.append_nil]
        exact hm eo
      · rw [if_neg k1, if_neg k1]
        by_cases k3 : akC ((x.meet o).sured k).k ((x.meet o).sured k).A a ≠ 0 ∨ k = 3
        · rw [if_pos k3, if_pos k3, List.append_nil]
          exact hm eo
        · rw [if_neg k3, if_neg k3]
          have hk2 : k = 2 := by have := hf.k; omega
          have hyp : y.peer = x.own := by have := h3 eo; omega
          obtain ⟨d1, d2⟩ := h4 eo (by omega) hk2
          rcases hm eo with ⟨_, g2, g3, g4⟩ | ⟨g1, _⟩
          · refine .inl ⟨hyp, ?_⟩
            change _ = sy.take (tkA (x.meet o).a (x.meet o).l q b) ∧ tkA (x.meet o).a (x.meet o).l q b ≤ sy.length ∧ Held sy (tkR (x.meet o).a (x.meet o).l q b)
            change (if o = x.peer then gx else []) ++ tkO (x.meet o).a (x.meet o).l q b = _ ∧ _
            rw [g2]
            unfold tkA tkR tkO
            by_cases hc : chkC (x.meet o).a (lk (x.meet o).l) q = 0
            · rw [if_pos hc, if_pos hc]
              obtain ⟨i1, i2⟩ := told_sent (g4.ins d1 d2) g3
              exact ⟨i1, i2, (g4.ins d1 d2).rest⟩
            · rw [if_neg hc, if_neg hc, List.append_nil]
              exact ⟨rfl, g3, g4⟩
          · exact absurd hyp g1
/- who sends takes a frame: it may meet a later start of the other one -/
theorem Pr.taken {x y : Ls} {way sy gx : List ByteArray} (h : Pr x y way sy gx) {t : ByteArray} {sx : List ByteArray} (ht : Frm y x sx t) : Pr x (y.recvX t) way (sntOf y (y.recvX t) sy) gx := by
  obtain ⟨k, o, p, q, a, b, rfl, hf, h1, h2, h3, h4⟩ := ht
  rw [recvX_tx hf]
  obtain ⟨e1, e2⟩ := takeX_own y k o p q a b
  unfold sntOf
  by_cases hpe : (y.takeX k o p q a b).peer = y.peer
  · rw [if_pos hpe]
    exact ⟨e1 ▸ h.peer, fun s hs => (h.way s hs).same (Nat.le_refl _) e1 hpe fun _ _ e => e, fun e => by rw [hpe]; exact h.got (e1 ▸ e)⟩
  · rw [if_neg hpe]
    have hlt : y.peer < o ∧ (y.takeX k o p q a b).peer = o := by
      rw [e2] at hpe ⊢
      split at hpe
      · exact absurd rfl hpe
      · rename_i h9
        rw [if_neg h9]
        exact ⟨by omega, rfl⟩
    refine ⟨e1 ▸ h.peer, fun s hs => ?_, fun e => ?_⟩
    · obtain ⟨k', o', p', q', a', b', e', hf', g1, g2, g3, g4⟩ := h.way s hs
      refine ⟨k', o', p', q', a', b', e', hf', e1 ▸ g1, g2, fun eo => ?_, fun eo ep => ?_⟩
      · rw [hlt.2]
        have := g3 (e1 ▸ eo)
        omega
      · rw [hlt.2] at ep
        have := g3 (e1 ▸ eo)
        omega
    · rw [e1] at e
      rcases h.got e with ⟨g1, _⟩ | ⟨g1, g2, g3, g4⟩
      · omega
      · rw [g2, g3, g4]
        by_cases hy : (y.takeX k o p q a b).peer = x.own
        · exact .inl ⟨hy, rfl, Nat.zero_le _, fun p hp => by simp at hp⟩
        · exact .inr ⟨hy, rfl, rfl, rfl⟩
theorem Sn.meet {y : Ls} {sy : List ByteArray} (h : Sn y sy) (o : Nat) : Sn (y.meet o) (if o = y.peer then sy else []) := by
  unfold Ls.meet
  split
  · exact h
  · exact ⟨Nat.le_refl _, rfl⟩
theorem Sn.taken {y : Ls} {sy : List ByteArray} (h : Sn y sy) {x : Ls} {t : ByteArray} {sx : List ByteArray} (ht : Frm y x sx t) : Sn (y.recvX t) (sntOf y (y.recvX t) sy) := by
  obtain ⟨k, o, p, q, a, b, rfl, hf, _⟩ := ht
  rw [recvX_tx hf]
  obtain ⟨e1, e2⟩ := takeX_own y k o p q a b
  unfold sntOf
  rw [e2]
  unfold Ls.takeX
  by_cases hs : o < y.peer
  · rw [if_pos hs, if_pos hs, if_pos rfl]
    exact ⟨h.le, h.eq⟩
  · rw [if_neg hs, if_neg hs]
    have hm := h.meet o
    split
    · exact ⟨hm.le, hm.eq⟩
    · have hm' : Sn ((y.meet o).sured k) (if o = y.peer then sy else []) := ⟨hm.le, hm.eq⟩
      unfold Ls.openX
      split
      · exact hm'
      · split
        · exact hm'.acked a
        · exact ⟨(hm'.acked a).le, (hm'.acked a).eq⟩

end Go.Proofs.Ytcadlcpccemkbaa
