/- Pure: a frame arrives. -/
import Derived.Test.YtcadlcpccemkbaaEh
namespace Go.Proofs.Ytcadlcpccemkbaa
set_option maxRecDepth 100000

theorem Held.ins {sy : List ByteArray} {l : List (Nat × ByteArray)} {q : Nat} {b : ByteArray} (h : Held sy l) (h1 : 1 ≤ q) (h2 : sy[q - 1]? = some b) : Held sy (ins q b l) := fun p hp => by
  rcases mem_ins.1 hp with rfl | hp
  · exact ⟨h1, h2⟩
  · exact h p hp
/- what is told is what was sent behind it -/
theorem told_sent : ∀ {sy : List ByteArray} {l : List (Nat × ByteArray)} {a : Nat}, Held sy l → a ≤ sy.length → sy.take a ++ stO (a + 1) l = sy.take (a + (stO (a + 1) l).length) ∧ a + (stO (a + 1) l).length ≤ sy.length
  | sy, [], a, _, ha => by simp [stO]; exact ha
  | sy, p :: l, a, h, ha => by
    rw [stO]
    split
    · rename_i e
      obtain ⟨h1, h2⟩ := h p (by simp)
      rw [e, Nat.add_sub_cancel] at h2
      have hlt := (List.getElem?_eq_some_iff.1 h2).1
      obtain ⟨i1, i2⟩ := told_sent (l := l) (a := a + 1) (fun q hq => h q (List.mem_cons_of_mem _ hq)) (by omega)
      have e1 : sy.take (a + 1) = sy.take a ++ [p.2] := by
        rw [List.take_add_one, h2]
        rfl
      rw [e1, List.append_assoc] at i1
      refine ⟨?_, by rw [List.length_cons]; omega⟩
      rw [List.length_cons, show a + ((stO (a + 1 + 1) l).length + 1) = a + 1 + (stO (a + 1 + 1) l).length by omega, ← i1]
      rfl
    · simp; exact ha
theorem Held.rest {sy : List ByteArray} {l : List (Nat × ByteArray)} {n : Nat} (h : Held sy l) : Held sy (stR n l) := fun p hp => h p (stR_sub hp)
theorem openX_own (x : Ls) (k q a : Nat) (b : ByteArray) : (x.openX k q a b).own = x.own ∧ (x.openX k q a b).peer = x.peer := by
  unfold Ls.openX
  split
  · exact ⟨rfl, rfl⟩
  · split <;> exact ⟨rfl, rfl⟩
theorem takeX_own (x : Ls) (k o p q a : Nat) (b : ByteArray) : (x.takeX k o p q a b).own = x.own ∧ (x.takeX k o p q a b).peer = if o < x.peer then x.peer else o := by
  unfold Ls.takeX
  split
  · exact ⟨rfl, rfl⟩
  · split
    · exact ⟨x.meet_own o, x.meet_peer o⟩
    · obtain ⟨h1, h2⟩ := openX_own ((x.meet o).sured k) k q a b
      exact ⟨h1.trans (x.meet_own o), h2.trans (x.meet_peer o)⟩

/- what x has behind it; rp: whether all that was begun is gone -/
def gotOf (x x' : Ls) (gx : List ByteArray) : List ByteArray := if x'.peer = x.peer then gx else []
def sntOf (x x' : Ls) (sx : List ByteArray) : List ByteArray := if x'.peer = x.peer then sx else []

theorem Pr.arrives {x y : Ls} {way way' sy gx : List ByteArray} (h : Pr x y way sy gx) (hr : y.peer ≤ x.own) {t : ByteArray} (ht : Frm x y sy t) (hw : ∀ s ∈ way', s ∈ way) : Pr (x.recvX t) y way' sy (gotOf x (x.recvX t) gx ++ x.recvB t) := by
  obtain ⟨k, o, p, q, a, b, rfl, hf, h1, h2, h3, h4⟩ := ht
  rw [recvX_tx hf, recvB_tx hf]
  obtain ⟨e1, e2⟩ := takeX_own x k o p q a b
  unfold gotOf
  rw [e2]
  by_cases hs : o < x.peer
  · rw [if_pos hs] at e2 ⊢
    rw [Ls.takeB, if_pos hs, if_pos rfl, List.append_nil, Ls.takeX, if_pos hs]
    exact ⟨h.peer, fun t ht => (h.way t (hw t ht)).same (Nat.le_refl _) rfl rfl fun _ _ e => e, h.got⟩
  · rw [if_neg hs] at e2 ⊢
    have hway : ∀ s ∈ way', Frm (x.takeX k o p q a b) y sy s := fun s hs' => (h.way s (hw s hs')).same (Nat.le_of_eq e1.symm) rfl rfl fun _ _ e => e
    /- what the end that met o has -/
    have hm : o = y.own → (y.peer = x.own ∧ (if o = x.peer then gx else []) = sy.take (x.meet o).a ∧ (x.meet o).a ≤ sy.length ∧ Held sy (x.meet o).l) ∨ (y.peer ≠ x.own ∧ (if o = x.peer then gx else []) = [] ∧ (x.meet o).a = 0 ∧ (x.meet o).l = []) := fun eo => by
      unfold Ls.meet
      by_cases hp : o = x.peer
      · rw [if_pos hp, if_pos hp]
        exact h.got (hp ▸ eo)
      · rw [if_neg hp, if_neg hp]
        by_cases hy : y.peer = x.own
        · exact .inl ⟨hy, rfl, Nat.zero_le _, fun p hp => by simp at hp⟩
        · exact .inr ⟨hy, rfl, rfl, rfl⟩
    refine ⟨by rw [e2]; exact h1, hway, fun eo => ?_⟩
    rw [e2] at eo
    rw [e1]
    unfold Ls.takeX Ls.takeB
    rw [if_neg hs, if_neg hs]
    by_cases hp : p ≠ x.own
    · rw [if_pos hp, if_pos hp, List.append_nil]
      exact hm eo
    · rw [if_neg hp, if_neg hp]
      have hpx : p = x.own := by omega
      unfold Ls.openX Ls.openB
      by_cases k1 : k = 1
      · rw [if_pos k1, if_pos k1, List.append_nil]
        exact hm eo
      · rw [if_neg k1, if_neg k1]
        by_cases k3 : akC ((x.meet o).sured k).k ((x.meet o).sured k).A a ≠ 0 ∨ k = 3
        · rw [if_pos k3, if_pos k3, List.append_nil]
          exact hm eo
        · rw [if_neg k3, if_neg k3]
          have hk2 : k = 2 := by have := hf.k; omega
          have hyp : y.peer = x.own := by have := h3 eo; omega
          obtain ⟨d1, d2⟩ := h4 eo (by omega) hk2
          rcases hm eo with ⟨_, g2, g3, g4⟩ | ⟨g1, _⟩
          · refine .inl ⟨hyp, ?_⟩
            change _ = sy.take (tkA (x.meet o).a (x.meet o).l q b) ∧ tkA (x.meet o).a (x.meet o).l q b ≤ sy.length ∧ Held sy (tkR (x.meet o).a (x.meet o).l q b)
            change (if o = x.peer then gx else []) ++ tkO (x.meet o).a (x.meet o).l q b = _ ∧ _
            rw [g2]
            unfold tkA tkR tkO
            by_cases hc : chkC (x.meet o).a (lk (x.meet o).l) q = 0
            · rw [if_pos hc, if_pos hc]
              obtain ⟨i1, i2⟩ := told_sent (g4.ins d1 d2) g3
              exact ⟨i1, i2, (g4.ins d1 d2).rest⟩
            · rw [if_neg hc, if_neg hc, List.append_nil]
              exact ⟨rfl, g3, g4⟩
          · exact absurd hyp g1
/- who sends takes a frame: it may meet a later start of the other one -/
theorem Pr.taken {x y : Ls} {way sy gx : List ByteArray} (h : Pr x y way sy gx) {t : ByteArray} {sx : List ByteArray} (ht : Frm y x sx t) : Pr x (y.recvX t) way (sntOf y (y.recvX t) sy) gx := by
  obtain ⟨k, o, p, q, a, b, rfl, hf, h1, h2, h3, h4⟩ := ht
  rw [recvX_tx hf]
  obtain ⟨e1, e2⟩ := takeX_own y k o p q a b
  unfold sntOf
  by_cases hpe : (y.takeX k o p q a b).peer = y.peer
  · rw [if_pos hpe]
    exact ⟨e1 ▸ h.peer, fun s hs => (h.way s hs).same (Nat.le_refl _) e1 hpe fun _ _ e => e, fun e => by rw [hpe]; exact h.got (e1 ▸ e)⟩
  · rw [if_neg hpe]
    have hlt : y.peer < o ∧ (y.takeX k o p q a b).peer = o := by
      rw [e2] at hpe ⊢
      split at hpe
      · exact absurd rfl hpe
      · rename_i h9
        rw [if_neg h9]
        exact ⟨by omega, rfl⟩
    refine ⟨e1 ▸ h.peer, fun s hs => ?_, fun e => ?_⟩
    · obtain ⟨k', o', p', q', a', b', e', hf', g1, g2, g3, g4⟩ := h.way s hs
      refine ⟨k', o', p', q', a', b', e', hf', e1 ▸ g1, g2, fun eo => ?_, fun eo ep => ?_⟩
      · rw [hlt.2]
        have := g3 (e1 ▸ eo)
        omega
      · rw [hlt.2] at ep
        have := g3 (e1 ▸ eo)
        omega
    · rw [e1] at e
      rcases h.got e with ⟨g1, _⟩ | ⟨g1, g2, g3, g4⟩
      · omega
      · rw [g2, g3, g4]
        by_cases hy : (y.takeX k o p q a b).peer = x.own
        · exact .inl ⟨hy, rfl, Nat.zero_le _, fun p hp => by simp at hp⟩
        · exact .inr ⟨hy, rfl, rfl, rfl⟩
theorem Sn.meet {y : Ls} {sy : List ByteArray} (h : Sn y sy) (o : Nat) : Sn (y.meet o) (if o = y.peer then sy else []) := by
  unfold Ls.meet
  split
  · exact h
  · exact ⟨Nat.le_refl _, rfl⟩
theorem Sn.taken {y : Ls} {sy : List ByteArray} (h : Sn y sy) {x : Ls} {t : ByteArray} {sx : List ByteArray} (ht : Frm y x sx t) : Sn (y.recvX t) (sntOf y (y.recvX t) sy) := by
  obtain ⟨k, o, p, q, a, b, rfl, hf, _⟩ := ht
  rw [recvX_tx hf]
  obtain ⟨e1, e2⟩ := takeX_own y k o p q a b
  unfold sntOf
  rw [e2]
  unfold Ls.takeX
  by_cases hs : o < y.peer
  · rw [if_pos hs, if_pos hs, if_pos rfl]
    exact ⟨h.le, h.eq⟩
  · rw [if_neg hs, if_neg hs]
    have hm := h.meet o
    split
    · exact ⟨hm.le, hm.eq⟩
    · have hm' : Sn ((y.meet o).sured k) (if o = y.peer then sy else []) := ⟨hm.le, hm.eq⟩
      unfold Ls.openX
      split
      · exact hm'
      · split
        · exact hm'.acked a
        · exact ⟨(hm'.acked a).le, (hm'.acked a).eq⟩

end Go.Proofs.Ytcadlcpccemkbaa
