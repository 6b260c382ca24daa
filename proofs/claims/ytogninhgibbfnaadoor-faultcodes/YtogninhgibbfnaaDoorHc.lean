/- Codes, of every error in memory. -/
import Derived.Test.YtogninhgibbfnaaDoorHb
import Derived.Test.YtogninhgibbfnaaDoorTg
namespace Go.Proofs.YtogninhgibbfnaaDoor
open Go.RowKit Go.Shelf
set_option maxRecDepth 100000
attribute [local go_sem] not_any mf_any

theorem info37 : (Tryd.prog.info? 37).map (fun i => (i.zero, i.size, i.bytes)) = some (some (.int .i64 0), 1, 8) := by kernel_rfl

def SN (nE : Nat) : Nat → Obj → Prop := fun k o => k = nE ∨ (nE ≤ k ∧ isRow 37 o)

/- the numbers so far, in the box nE -/
def Nums (nE : Nat) (dn : List Int) (W : World) : Prop :=
  ∃ v, W.heap[nE]? = some (.cells #[v] 33 (0, 0)) ∧ W.ownsRow nE 37 1 v dn.length (ints dn)

theorem SN_low {nE : Nat} {k : Nat} {o : Obj} (h : SN nE k o) : nE ≤ k := by
  rcases h with rfl | h
  · exact Nat.le_refl _
  · exact h.1

theorem Nums.stay {nE n1 : Nat} {dn : List Int} {W W' : World} (h : Nums nE dn W) (hk : Kp (So n1) W W') : Nums nE dn W' := by
  obtain ⟨v, h1, h2⟩ := h
  exact ⟨v, So_keep hk _ _ _ (by decide) (by decide) h1, So_row hk (by decide) (by decide) h2⟩

theorem Nums.below {nE : Nat} {dn : List Int} {W W' : World} (h : Nums nE dn W) (hB : Below W.heap.size W W') : Nums nE dn W' := h.stay (n1 := nE) (Kp.ofBelow hB)

set_option maxHeartbeats 1000000 in
theorem codesV_leaf (nE : Nat) (x : E) (c : Int) (dn : List Int) (W : World) (ha : AsTells x c W) (hpl : Nums nE dn W) (hd : dn.length ≤ 1000000) :
    Calls Tryd.prog 30 #[ev x, .bool true, .pointer (some ⟨nE, 0, none⟩)] W fun e w' => e = .returned (.int .i64 0) ∧ Nums nE (dn ++ [c]) w' ∧ Kp (SN nE) W w' := by
  obtain ⟨i0, hi, hz0, hz1, hz2⟩ := info_parts info37
  have HA := hide1 (And.intro ha hpl)
  clear ha hpl
  go_enter Tryd.func30, Tryd.ntmps30
  go_wp2_with fail
  refine (number_yes x c W HA.out.1).mono ?_
  rintro y w' ⟨rfl, hB⟩
  obtain ⟨v, hbox, hrow⟩ := HA.out.2.below hB
  have HB := hide1 hB
  clear hB
  have hbl := lt_of_heap hbox
  have hc : w'.cell? ⟨nE, 0, none⟩ = some v := by simp [World.cell?, hbox]
  have hnr : v.ownBlock ≠ some nE := fun e => by
    obtain ⟨_, c, hc⟩ := row_of_own hrow _ e
    rw [hbox] at hc
    cases hc
  go_wp2_with (at_builtin; refine wpList_append_own _ rfl _ _ 33 rfl nE 37 i0 (.int .i64 0) 1 8 Tryd.underlying33 hi hz0 hz1 hz2 rfl (by decide) _ _ _ rfl (hrow.alloc _) ⟨w'.heap.size, 0, none⟩ 1 1 [.int .i64 c] rfl rfl (cell_one_new _ _ _) (by simp [Value.oneCell']) (by unfold maxLen; omega) (by omega) (by simp; omega) ?_; intro v' w1 hown' hgrow _; obtain ⟨g', cap', rfl⟩ := ownsRow_succ hown'; have hb1 : w1.heap[nE]? = some (.cells #[v] 33 (0, 0)) := (hgrow.block nE (Nat.lt_of_lt_of_le hbl (by simp)) (fun e => hnr e.symm)).trans ((Below.heap_alloc _ _ _ hbl).trans hbox); have hc1 : w1.cell? ⟨nE, 0, none⟩ = some v := (by simp [World.cell?, hb1]); have hf1 : w1.frozen? ⟨nE, 0, none⟩ = false := (by simp [World.frozen?, hb1]))
  go_ret
  have hg2 : (w'.alloc (.cells #[.int .i64 c] 37)).grownBy w1 v.ownBlock := hgrow
  refine ⟨rfl, ⟨_, set_box hb1 _, ?_⟩, ?_⟩
  · have h := hown'.kept (grownBy_setCell' w1 nE (.slice (some ⟨g', 0, none⟩) (dn.length + 1) cap')) (.inr (fun e => by
      obtain ⟨_, c, hc⟩ := row_of_own hown' _ e
      rw [hb1] at hc
      cases hc))
    simpa [ints] using h
  · refine (Kp.ofBelow HB.out).trans (Kp.setCell (Kp.grown ((Kp.refl _ w').alloc _) hg2 ?_) _ (fun o _ => .inl rfl) _)
    intro k o hk ho
    obtain ⟨h1, c, hc⟩ := row_of_own hrow k hk
    rw [hc] at ho
    cases ho
    exact .inr ⟨h1, _, _, rfl⟩

set_option maxHeartbeats 1000000 in
theorem codesV_in (x : E) (p : Value) (W : World) :
    Calls Tryd.prog 30 #[ev x, .bool false, p] W fun e w' => e = .returned (.int .i64 0) ∧ Below W.heap.size W w' := by
  go_enter Tryd.func30, Tryd.ntmps30
  go_wp2_with fail
  refine (number_no x W).mono ?_
  rintro y w' ⟨rfl, hB⟩
  go_wp2
  go_ret
  exact ⟨rfl, hB⟩

def JN (nE : Nat) (full : List Int) (m : Nat) (st : St) (W : World) : Prop :=
  ∃ dn is, Nums nE dn W ∧ Stk W nE st is ∧ m = total is ∧ m ≤ 1000000 ∧ full = dn ++ is.flatMap (·.codes) ∧ Et W ∧ 0 < nE

theorem et_low {nE : Nat} {W W' : World} (h : Et W) (h0 : 0 < nE) (hl : ∀ b o, b < nE → W.heap[b]? = some o → W'.heap[b]? = some o) : Et W' := by
  have hlt := lt_cell h
  have hx : W.heap[0]? = some W.heap[0] := Array.getElem?_eq_getElem hlt
  exact (World.cell?_of_block (w := W) ((hl 0 _ h0 hx).trans hx.symm)).trans h

theorem app3 (a b c : Value) : (#[a, b] ++ #[c] : Array Value) = #[a, b, c] := rfl

theorem codesVisits (nE : Nat) (full : List Int) (hfull : full.length ≤ 1000000) :
    Visits 30 #[.pointer (some ⟨nE, 0, none⟩)] (SN nE) (JN nE full) (fun W => Nums nE full W) (nE + 1) where
  enters := enters_of Tryd.func30 (by kernel_rfl) rfl
  len := by
    rintro m st W ⟨dn, is, _, h1, rfl, h2, _⟩
    have := h1.len
    omega
  stay := by
    rintro m st W W' ⟨dn, is, h1, h2, h3, h4, h5, h6, h7⟩ hk
    have hlow := low_kept (nE := nE) hk (fun k o hs => by have := hs.1; omega)
    exact ⟨dn, is, h1.stay hk, h2.kept hlow, h3, h4, h5, et_low h6 h7 hlow, h7⟩
  stayEnd := fun W W' h hk => h.stay hk
  done := by
    rintro m W ⟨dn, is, h1, h2, _, _, h5, _⟩
    match is, h2 with
    | [], _ =>
      simp at h5
      subst h5
      exact h1
  apart := by
    rintro k o hk (rfl | ⟨_, _, _, rfl⟩)
    · omega
    · rintro ((⟨_, _, e⟩ | ⟨_, _, e⟩ | e) | ⟨_, _, e⟩ | ⟨_, _, e⟩) <;> cases e
  step := by
    rintro m x d st W hsz ⟨dn, is, h1, hst0, rfl, h3, hf, h6, h7⟩
    match is, hst0 with
    | i :: is, ⟨⟨k, hE, hd0, hd1⟩, hst⟩ =>
    refine ⟨hd0, by simp at hd1; omega, ?_⟩
    simp only at hE hd0 hd1
    have hdl : dn.length ≤ 1000000 := by
      have := congrArg List.length hf
      simp only [List.length_append] at this
      omega
    have bW : ∀ W', Below W.heap.size W W' → ∀ b o, W.heap[b]? = some o → W'.heap[b]? = some o := fun W' hB b o ho => (hB.block b (lt_of_heap ho)).trans ho
    have lowW : ∀ W' w'', Below W.heap.size W W' → Kp (SN nE) W' w'' → ∀ b o, b < nE → W.heap[b]? = some o → w''.heap[b]? = some o := fun W' w'' hB hk b o hb ho =>
      low_kept hk (fun _ _ => SN_low) b o hb (bW W' hB b o ho)
    have eW : ∀ W', Below W.heap.size W W' → Et W' := fun W' hB => (hB.cell (p := ⟨0, 0, none⟩) (lt_cell h6)).trans h6
    match k, hE, hd1 with
    | k + 1, hE, hd1 =>
    rcases hE with ⟨c, rfl, hc, rfl⟩ | ⟨b, c, s, hb, rfl, hh, hc, rfl⟩ | ⟨b, s, e1, i1, hb, rfl, hh, hE1, rfl⟩ | ⟨b, e1, e2, i1, i2, hb, rfl, hh, hE1, hE2, rfl⟩
    · refine ⟨[], by simp, kids_37 W _, fun W' hB => ?_⟩
      rw [app3]
      refine (codesV_leaf nE (37, .int .i64 c) c dn W' (asTells_errno c W' (eW W' hB)) (h1.below hB) hdl).mono ?_
      rintro y w'' ⟨rfl, hp1, hk1⟩
      exact ⟨0, rfl, hk1, .inr (.inr ⟨rfl, total is, by simp [total], dn ++ [c], is, hp1, hst.kept (lowW W' w'' hB hk1), rfl, by simp [total] at h3; omega, by simpa using hf, et_low h6 h7 (lowW W' w'' hB hk1), h7⟩)⟩
    · refine ⟨[], by simp, kids_root W b c s hh, fun W' hB => ?_⟩
      rw [app3]
      refine (codesV_leaf nE (74, .pointer (some ⟨b, 0, none⟩)) c dn W' (asTells_root b c s W' (eW W' hB) (bW _ hB _ _ hh) hc) (h1.below hB) hdl).mono ?_
      rintro y w'' ⟨rfl, hp1, hk1⟩
      exact ⟨0, rfl, hk1, .inr (.inr ⟨rfl, total is, by simp [total], dn ++ [c], is, hp1, hst.kept (lowW W' w'' hB hk1), rfl, by simp [total] at h3; omega, by simpa using hf, et_low h6 h7 (lowW W' w'' hB hk1), h7⟩)⟩
    · refine ⟨[e1], by simp, kids_wrap W b s e1 hh, fun W' hB => ?_⟩
      rw [app3]
      refine (codesV_in (74, .pointer (some ⟨b, 0, none⟩)) _ W').mono ?_
      rintro y w'' ⟨rfl, hB1⟩
      have hk1 : Kp (SN nE) W' w'' := Kp.ofBelow hB1
      have hl := lowW W' w'' hB hk1
      exact ⟨0, rfl, hk1, .inr (.inr ⟨rfl, total (i1 :: is), by simp [total], dn, i1 :: is, (h1.below hB).below hB1, ⟨⟨k, hE1.kept hl, by simp; omega, by simp; omega⟩, hst.kept hl⟩, rfl, by simp [total] at h3 ⊢; omega, by simpa using hf, et_low h6 h7 hl, h7⟩)⟩
    · refine ⟨[e1, e2], by simp, kids_pair W b e1 e2 hh, fun W' hB => ?_⟩
      rw [app3]
      refine (codesV_in (77, .pointer (some ⟨b, 0, none⟩)) _ W').mono ?_
      rintro y w'' ⟨rfl, hB1⟩
      have hk1 : Kp (SN nE) W' w'' := Kp.ofBelow hB1
      have hl := lowW W' w'' hB hk1
      exact ⟨0, rfl, hk1, .inr (.inr ⟨rfl, total (i1 :: i2 :: is), by simp [total]; omega, dn, i1 :: i2 :: is, (h1.below hB).below hB1, ⟨⟨k, hE1.kept hl, by simp; omega, by simp; omega⟩, ⟨k, hE2.kept hl, by simp; omega, by simp; omega⟩, hst.kept hl⟩, rfl, by simp [total] at h3 ⊢; omega, by simpa using hf, et_low h6 h7 hl, h7⟩)⟩

set_option maxHeartbeats 1000000 in
theorem codes_any (e : E) (i : Info) (k : Nat) (w : World) (hE : IsErr w w.heap.size k e i) (hk : k ≤ 100000) (hs : i.size ≤ 1000000) (ht : i.codes.length ≤ 1000000) (he : Et w) :
    Calls Tryd.prog 13 #[ev e] w fun x w' => ∃ v, x = .returned v ∧ w'.ownsRow w.heap.size 37 1 v i.codes.length (ints i.codes) ∧ Below w.heap.size w w' := by
  have H := hide1 (And.intro hE (And.intro hk (And.intro hs (And.intro ht he))))
  clear hE hk hs ht he
  go_enter Tryd.func13, Tryd.ntmps13
  go_wp2_with fail
  obtain ⟨hE, hk, hs, ht, he⟩ := H.out
  have hB1 : (w.alloc (.cells #[.slice none 0 0] 33)).heap[w.heap.size]? = some (.cells #[.slice none 0 0] 33 (0, 0)) := World.alloc_heap_new w _
  have hl : ∀ b o, b < w.heap.size → w.heap[b]? = some o → (w.alloc (.cells #[.slice none 0 0] 33)).heap[b]? = some o := fun b o _ ho => (Below.heap_alloc _ _ _ (lt_of_heap ho)).trans ho
  have hJ0 : JN w.heap.size i.codes i.size [(e, 0)] (w.alloc (.cells #[.slice none 0 0] 33)) :=
    ⟨[], [i], ⟨_, hB1, World.ownsRow_nil _ _ _ _⟩, ⟨⟨k, hE.kept hl, by simp, by simp; omega⟩, trivial⟩, by simp [total], hs, by simp, et_low he (lt_cell he) hl, lt_cell he⟩
  refine (walk_any 30 _ (SN w.heap.size) (JN w.heap.size i.codes) (fun W => Nums w.heap.size i.codes W) i.size _ e (by simpa using codesVisits w.heap.size i.codes ht) hJ0).mono ?_
  rintro y w1 ⟨rfl, ⟨v, hb1, hr1⟩, hk1⟩
  have hc1 : w1.cell? ⟨w.heap.size, 0, none⟩ = some v := by simp [World.cell?, hb1]
  go_wp2
  go_ret
  exact ⟨v, rfl, hr1, Below.trans ((Below.refl _ _).alloc (Nat.le_refl _) _) (hk1.below (by simp) (fun k o => SN_low))⟩

end Go.Proofs.YtogninhgibbfnaaDoor
