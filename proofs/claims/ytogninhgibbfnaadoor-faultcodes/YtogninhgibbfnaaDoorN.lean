/- Code, of every error in memory. -/
import Derived.Test.YtogninhgibbfnaaDoorM
import Derived.Test.YtogninhgibbfnaaDoorY
namespace Go.Proofs.YtogninhgibbfnaaDoor
open Go.RowKit Go.Shelf
set_option maxRecDepth 100000
attribute [local go_sem] not_any mf_any

theorem Below.owns {W W' : World} (h : Below W.heap.size W W') : Owns W W' := fun b _ _ hb _ => (h.block b (lt_of_heap hb)).trans hb

theorem Seen.below {bS bM : Nat} {ks : List E} {W W' : World} (h : Seen bS bM ks W) (hB : Below W.heap.size W W') : Seen bS bM ks W' := by
  obtain ⟨h1, es, clock, h2, h3⟩ := h
  exact ⟨(hB.block _ (lt_of_heap h1)).trans h1, es, clock, (hB.block _ (lt_of_heap h2)).trans h2, h3.kept (Below.owns hB)⟩

set_option maxHeartbeats 1000000 in
theorem codeV_leaf (x : E) (c : Int) (bC : Nat) (v q : Value) (W : World) (hbox : W.heap[bC]? = some (.cells #[v] 37 (0, 0))) (ha : AsTells x c W) :
    Calls Tryd.prog 33 #[ev x, .bool true, .pointer (some ⟨bC, 0, none⟩), q] W fun e w' => e = .returned (.int .i64 2) ∧ w'.heap[bC]? = some (.cells #[.int .i64 c] 37 (0, 0)) ∧ Kp (fun k _ => k = bC) W w' := by
  have HA := hide1 ha
  clear ha
  go_enter Tryd.func33, Tryd.ntmps33
  go_wp2_with fail
  refine (number_yes x c W HA.out).mono ?_
  rintro e w1 ⟨rfl, hB⟩
  have hb1 := (hB.block _ (lt_of_heap hbox)).trans hbox
  have hc1 : w1.cell? ⟨bC, 0, none⟩ = some v := by simp [World.cell?, hb1]
  have hf1 : w1.frozen? ⟨bC, 0, none⟩ = false := by simp [World.frozen?, hb1]
  go_wp2
  go_ret
  exact ⟨rfl, set_box hb1 _, ((Kp.ofBelow hB).trans ((Kp.refl _ _).setCell _ (fun _ _ => rfl) _))⟩

set_option maxHeartbeats 1000000 in
theorem codeV_in (x : E) (p : Value) (bO bS bM : Nat) (ks : List E) (W : World) (hO : W.heap[bO]? = some (.cells #[.func (.func 51) #[] #[.pointer (some ⟨bS, 0, none⟩)]] 64 (0, 0)))
    (hh : ∀ W1, Below W.heap.size W W1 → Calls Tryd.prog 34 #[ev x] W1 fun e w' => e = .returned (.bool false) ∧ w' = W1) (hx : OwnAt W x) (hs : Seen bS bM ks W) (hn : x ∉ ks) :
    Calls Tryd.prog 33 #[ev x, .bool false, p, .pointer (some ⟨bO, 0, none⟩)] W fun e w' => e = .returned (.int .i64 0) ∧ Seen bS bM (ks ++ [x]) w' ∧ Kp (fun k _ => k = bM) W w' := by
  have H := hide1 (And.intro hh (And.intro hx (And.intro hs hn)))
  clear hh hx hs hn
  go_enter Tryd.func33, Tryd.ntmps33
  go_wp2_with fail
  refine (number_no x W).mono ?_
  rintro e w1 ⟨rfl, hB⟩
  have hO1 := (hB.block _ (lt_of_heap hO)).trans hO
  have hc1 : w1.cell? ⟨bO, 0, none⟩ = some (.func (.func 51) #[] #[.pointer (some ⟨bS, 0, none⟩)]) := by simp [World.cell?, hO1]
  go_wp2_with fail
  obtain ⟨hh, hx, hs, hn⟩ := H.out
  refine (hh w1 hB).mono ?_
  rintro e w2 ⟨rfl, rfl⟩
  go_wp2_with fail
  refine (once_new x bS bM ks w2 (hx.kept (Below.owns hB)) (hs.below hB) hn).mono ?_
  rintro e w3 ⟨rfl, hs3, hk3⟩
  go_wp2
  go_ret
  exact ⟨rfl, hs3, (Kp.ofBelow hB).trans hk3⟩

/- an error tells but one thing -/
theorem IsErr.unique {W : World} {n0 : Nat} : ∀ {k k' : Nat} {e : E} {i i' : Info}, IsErr W n0 k e i → IsErr W n0 k' e i' → i = i'
  | 0, _, _, _, _, h, _ => h.elim
  | _ + 1, 0, _, _, _, _, h => h.elim
  | k + 1, k' + 1, e, i, i', h, h' => by
    rcases h with ⟨c, h1, _, h3⟩ | ⟨b, c, s, _, h1, h2, _, h3⟩ | ⟨b, s, e1, i1, _, h1, h2, h3, h4⟩ | ⟨b, e1, e2, i1, i2, _, h1, h2, h3, h4, h5⟩ <;>
    rcases h' with ⟨c', g1, _, g3⟩ | ⟨b', c', s', _, g1, g2, _, g3⟩ | ⟨b', s', e1', i1', _, g1, g2, g3, g4⟩ | ⟨b', e1', e2', i1', i2', _, g1, g2, g3, g4, g5⟩ <;>
    subst h1 <;> simp at g1
    · subst g1; rw [h3, g3]
    · subst g1; rw [h2] at g2; simp at g2; obtain ⟨rfl, rfl⟩ := g2; rw [h3, g3]
    · subst g1; rw [h2] at g2; simp [ev] at g2
    · subst g1; rw [h2] at g2; simp [ev] at g2
    · subst g1; rw [h2] at g2; simp [ev] at g2
      obtain ⟨rfl, g2⟩ := g2
      have : e1 = e1' := Prod.ext g2.1 g2.2
      subst this
      rw [h4, g4, IsErr.unique h3 g3]
    · subst g1; rw [h2] at g2; simp [ev] at g2
      obtain ⟨ga, gb⟩ := g2
      have hA : e1 = e1' := Prod.ext ga.1 ga.2
      have hB : e2 = e2' := Prod.ext gb.1 gb.2
      subst hA
      subst hB
      rw [h5, g5, IsErr.unique h3 g3, IsErr.unique h4 g4]

theorem IsErr.codes_ne {W : World} {n0 : Nat} : ∀ {k : Nat} {e : E} {i : Info}, IsErr W n0 k e i → i.codes ≠ []
  | 0, _, _, he => he.elim
  | k + 1, e, i, he => by
    rcases he with ⟨c, _, _, rfl⟩ | ⟨b, c, s, _, _, _, _, rfl⟩ | ⟨b, s, e1, i1, _, _, _, h, rfl⟩ | ⟨b, e1, e2, i1, i2, _, _, _, h, _, rfl⟩
    · simp
    · simp
    · have := IsErr.codes_ne h
      simpa using this
    · have := IsErr.codes_ne h
      simp [this]


def JC (nE : Nat) (c0 : Int) (m : Nat) (st : St) (W : World) : Prop :=
  ∃ i is cs ks v, Stk W nE st (i :: is) ∧ m = total (i :: is) ∧ m ≤ 1000000 ∧ i.codes = c0 :: cs ∧ (∀ y ∈ ks, ∃ k' i', IsErr W nE k' y i' ∧ i.size < i'.size) ∧ Et W ∧ 0 < nE ∧
    Seen (nE + 2) (nE + 1) ks W ∧ W.heap[nE]? = some (.cells #[v] 37 (0, 0)) ∧ W.heap[nE + 3]? = some (.cells #[.func (.func 51) #[] #[.pointer (some ⟨nE + 2, 0, none⟩)]] 64 (0, 0))

def SC (nE : Nat) : Nat → Obj → Prop := fun k _ => k = nE ∨ k = nE + 1

theorem low_owns {nE : Nat} {W W' : World} (hl : ∀ b o, b < nE → W.heap[b]? = some o → W'.heap[b]? = some o) {x : E} {k : Nat} {i : Info} (h : IsErr W nE k x i) (hx : OwnAt W x) : OwnAt W' x := by
  match k, h with
  | k + 1, h =>
  rcases h with ⟨c, rfl, _, _⟩ | ⟨b, c, s, hb, rfl, h2, _, _⟩ | ⟨b, s, e1, i1, hb, rfl, h2, _, _⟩ | ⟨b, e1, e2, i1, i2, hb, rfl, h2, _, _, _⟩
  · obtain ⟨b, ⟨h1, _⟩ | ⟨h1, _⟩⟩ := hx <;> simp at h1
  · exact ⟨b, .inl ⟨rfl, _, hl b _ hb h2⟩⟩
  · exact ⟨b, .inl ⟨rfl, _, hl b _ hb h2⟩⟩
  · exact ⟨b, .inr ⟨rfl, _, hl b _ hb h2⟩⟩

theorem Seen.low {nE bS bM : Nat} {ks : List E} {W W' : World} (h : Seen bS bM ks W) (hl : ∀ b o, b < nE → W.heap[b]? = some o → W'.heap[b]? = some o) (hi : ∀ y ∈ ks, ∃ k i, IsErr W nE k y i)
    (hS : ∀ o, W.heap[bS]? = some o → W'.heap[bS]? = some o) (hM : ∀ o, W.heap[bM]? = some o → W'.heap[bM]? = some o) : Seen bS bM ks W' := by
  obtain ⟨h1, es, clock, h2, h3, h4, h5⟩ := h
  refine ⟨hS _ h1, es, clock, hM _ h2, h3, h4, fun y hy => ?_⟩
  obtain ⟨k, i, hk⟩ := hi y hy
  exact low_owns hl hk (h5 y hy)

theorem JC.stay {nE : Nat} {c0 : Int} {m : Nat} {st : St} {W W' : World} (h : JC nE c0 m st W) (hl : ∀ b o, b < nE + 4 → W.heap[b]? = some o → W'.heap[b]? = some o) : JC nE c0 m st W' := by
  obtain ⟨i, is, cs, ks, v, h1, h2, h3, h4, h5, h6, h7, h8, h9, h10⟩ := h
  have hl' : ∀ b o, b < nE → W.heap[b]? = some o → W'.heap[b]? = some o := fun b o hb => hl b o (by omega)
  refine ⟨i, is, cs, ks, v, h1.kept hl', h2, h3, h4, fun y hy => ?_, ?_, h7, ?_, hl _ _ (by omega) h9, hl _ _ (by omega) h10⟩
  · obtain ⟨k', i', ha, hb⟩ := h5 y hy
    exact ⟨k', i', ha.kept hl', hb⟩
  · have hlt := lt_cell h6
    have hx : W.heap[0]? = some W.heap[0] := Array.getElem?_eq_getElem hlt
    exact (World.cell?_of_block (w := W) ((hl 0 _ (by omega) hx).trans hx.symm)).trans h6
  · exact h8.low hl' (fun y hy => by obtain ⟨k', i', ha, _⟩ := h5 y hy; exact ⟨k', i', ha⟩) (fun o => hl _ o (by omega)) (fun o => hl _ o (by omega))

theorem codeVisits (nE : Nat) (c0 : Int) :
    Visits 33 #[.pointer (some ⟨nE, 0, none⟩), .pointer (some ⟨nE + 3, 0, none⟩)] (SC nE) (JC nE c0) (fun W => W.heap[nE]? = some (.cells #[.int .i64 c0] 37 (0, 0))) (nE + 4) where
  enters := enters_of Tryd.func33 (by kernel_rfl) rfl
  len := by
    rintro m st W ⟨i, is, cs, ks, v, h1, rfl, h2, _⟩
    have := h1.len
    omega
  stay := by
    rintro m st W W' h hk
    exact h.stay (low_kept hk (fun k o hs => hs.1))
  stayEnd := fun W W' h hk => So_keep hk _ _ _ (by decide) (by decide) h
  done := by
    rintro m W ⟨i, is, cs, ks, v, h1, _⟩
    exact h1.elim
  apart := by
    rintro k o hk (rfl | rfl) <;> omega
  step := by
    rintro m x d st W hsz hJ
    have hJ' := hJ
    obtain ⟨i, is, cs, ks, v, ⟨⟨k, hE, hd0, hd1⟩, hst⟩, rfl, h3, h4, h5, h6, h7, h8, h9, h10⟩ := hJ
    refine ⟨hd0, by simp at hd1; omega, ?_⟩
    simp only at hE hd0 hd1
    have hnew : x ∉ ks := fun hin => by
      obtain ⟨k', i', ha, hb⟩ := h5 x hin
      have := hE.unique ha
      subst this
      omega
    have bW : ∀ W', Below W.heap.size W W' → JC nE c0 (total (i :: is)) ((x, d) :: st) W' := fun W' hB => hJ'.stay (fun b o _ ho => (hB.block b (lt_of_heap ho)).trans ho)
    have eW : ∀ W', Below W.heap.size W W' → Et W' := fun W' hB => (hB.cell (p := ⟨0, 0, none⟩) (lt_cell h6)).trans h6
    have inner : ∀ (ks1 : List E) (is1 : List Info) (i1 : Info) (cs1 : List Int) (k1 : Nat) (W' : World), Below W.heap.size W W' → OwnAt W x →
        (∀ W1, Below W'.heap.size W' W1 → Calls Tryd.prog 34 #[ev x] W1 fun e w' => e = .returned (.bool false) ∧ w' = W1) →
        i1.codes = c0 :: cs1 → i1.size < i.size → total (i1 :: is1) < total (i :: is) → (∀ w'', (∀ b o, b < nE → W.heap[b]? = some o → w''.heap[b]? = some o) → Stk w'' nE (ks1.map (fun k => (k, d + 1)) ++ st) (i1 :: is1)) →
        Calls Tryd.prog 33 #[ev x, .bool false, .pointer (some ⟨nE, 0, none⟩), .pointer (some ⟨nE + 3, 0, none⟩)] W' fun e w'' => ∃ s, e = .returned (.int .i64 s) ∧ Kp (SC nE) W' w'' ∧
          ((s = 2 ∧ w''.heap[nE]? = some (.cells #[.int .i64 c0] 37 (0, 0))) ∨ (s = 1 ∧ ∃ m', m' < total (i :: is) ∧ JC nE c0 m' st w'') ∨ (s = 0 ∧ ∃ m', m' < total (i :: is) ∧ JC nE c0 m' (ks1.map (fun k => (k, d + 1)) ++ st) w'')) := by
      intro ks1 is1 i1 cs1 k1 W' hB hown hh hcs hsz1 htot hstk
      refine (codeV_in x _ (nE + 3) (nE + 2) (nE + 1) ks W' ((hB.block _ (lt_of_heap h10)).trans h10) hh (hown.kept (Below.owns hB)) (h8.below hB) hnew).mono ?_
      rintro e w'' ⟨rfl, hs'', hk''⟩
      have hlow : ∀ b o, b < nE → W.heap[b]? = some o → w''.heap[b]? = some o := fun b o hb ho => hk''.same b o ((hB.block b (lt_of_heap ho)).trans ho) (by omega)
      refine ⟨0, rfl, hk''.mono (fun k o _ hs => .inr hs), .inr (.inr ⟨rfl, _, htot, i1, is1, cs1, ks ++ [x], v, hstk w'' hlow, rfl, by omega, hcs, ?_, ?_, h7, hs'', ?_, ?_⟩)⟩
      · intro y hy
        rcases List.mem_append.1 hy with hy | hy
        · obtain ⟨k', i', ha, hb⟩ := h5 y hy
          exact ⟨k', i', ha.kept hlow, by omega⟩
        · obtain rfl := List.mem_singleton.1 hy
          exact ⟨k, i, hE.kept hlow, hsz1⟩
      · have hlt := lt_cell h6
        have hx : W.heap[0]? = some W.heap[0] := Array.getElem?_eq_getElem hlt
        exact (World.cell?_of_block (w := W) ((hlow 0 _ h7 hx).trans hx.symm)).trans h6
      · exact hk''.same _ _ ((hB.block _ (lt_of_heap h9)).trans h9) (by omega)
      · exact hk''.same _ _ ((hB.block _ (lt_of_heap h10)).trans h10) (by omega)
    match k, hE, hd1 with
    | k + 1, hE, hd1 =>
    have hE' := hE
    rcases hE with ⟨c, rfl, hc, rfl⟩ | ⟨b, c, s, hb, rfl, hh, hc, rfl⟩ | ⟨b, s, e1, i1, hb, rfl, hh, hE1, rfl⟩ | ⟨b, e1, e2, i1, i2, hb, rfl, hh, hE1, hE2, rfl⟩
    · simp at h4
      refine ⟨[], by simp, kids_37 W _, fun W' hB => ?_⟩
      refine (codeV_leaf (37, .int .i64 c) c nE v _ W' ((hB.block _ (lt_of_heap h9)).trans h9) (asTells_errno c W' (eW W' hB))).mono ?_
      rintro y w'' ⟨rfl, hb1, hk1⟩
      exact ⟨2, rfl, hk1.mono (fun k o _ hs => .inl hs), .inl ⟨rfl, by rw [← h4.1]; exact hb1⟩⟩
    · simp at h4
      refine ⟨[], by simp, kids_root W b c s hh, fun W' hB => ?_⟩
      refine (codeV_leaf (74, .pointer (some ⟨b, 0, none⟩)) c nE v _ W' ((hB.block _ (lt_of_heap h9)).trans h9) (asTells_root b c s W' (eW W' hB) ((hB.block _ (lt_of_heap hh)).trans hh) hc)).mono ?_
      rintro y w'' ⟨rfl, hb1, hk1⟩
      exact ⟨2, rfl, hk1.mono (fun k o _ hs => .inl hs), .inl ⟨rfl, by rw [← h4.1]; exact hb1⟩⟩
    · refine ⟨[e1], by simp, kids_wrap W b s e1 hh, fun W' hB => ?_⟩
      refine inner [e1] is i1 cs k W' hB ⟨b, .inl ⟨rfl, _, hh⟩⟩ (fun W1 hB1 => isHollow_wrap b e1.1 e1.2 W1 ?_) h4 (by simp) (by simp [total]) (fun w'' hl => ⟨⟨k, hE1.kept hl, by simp; omega, by simp; omega⟩, hst.kept hl⟩)
      have h' := (hB.block _ (lt_of_heap hh)).trans hh
      exact (fault_cells ((hB1.block _ (lt_of_heap h')).trans h')).2.2
    · have hne := hE1.codes_ne
      obtain ⟨c1, cs1, hc1⟩ : ∃ c cs, i1.codes = c :: cs := by
        cases hcc : i1.codes with
        | nil => exact absurd hcc hne
        | cons c cs => exact ⟨c, cs, rfl⟩
      have hc01 : c1 = c0 := by
        rw [hc1] at h4
        simp at h4
        exact h4.1
      refine ⟨[e1, e2], by simp, kids_pair W b e1 e2 hh, fun W' hB => ?_⟩
      exact inner [e1, e2] (i2 :: is) i1 cs1 k W' hB ⟨b, .inr ⟨rfl, _, hh⟩⟩ (fun W1 _ => isHollow_77 _ W1) (by rw [hc1, hc01]) (by simp; omega) (by simp [total]; omega) (fun w'' hl => ⟨⟨k, hE1.kept hl, by simp; omega, by simp; omega⟩, ⟨k, hE2.kept hl, by simp; omega, by simp; omega⟩, hst.kept hl⟩)

end Go.Proofs.YtogninhgibbfnaaDoor
