/- Path, of every error in memory. -/
import Derived.Test.YtogninhgibbfnaaDoorX
namespace Go.Proofs.YtogninhgibbfnaaDoor
open Go.RowKit Go.Shelf
set_option maxRecDepth 100000
attribute [local go_sem] not_any mf_any

def SP (nE : Nat) : Nat → Obj → Prop := fun k o => k = nE ∨ (nE ≤ k ∧ isRow 9 o)

def strs (l : List ByteArray) : List Value := l.map Value.string

theorem info9 : (Tryd.prog.info? 9).map (fun i => (i.zero, i.size, i.bytes)) = some (some (.string ⟨#[]⟩), 1, 16) := by kernel_rfl

/- the places so far, in the box nE -/
def Places (nE : Nat) (dn : List ByteArray) (W : World) : Prop :=
  ∃ v, W.heap[nE]? = some (.cells #[v] 47 (0, 0)) ∧ W.ownsRow nE 9 1 v dn.length (strs dn)

set_option maxHeartbeats 1000000 in
theorem pathV_stop (nE : Nat) (e : E) (W : World) (hp : Calls Tryd.prog 38 #[ev e] W fun x w' => x = .returned (.tuple #[.string ⟨#[]⟩, .bool false]) ∧ w' = W) (fin : Bool) :
    Calls Tryd.prog 45 #[ev e, .bool fin, .pointer (some ⟨nE, 0, none⟩)] W fun x w' => x = .returned (.int .i64 2) ∧ w' = W := by
  have HP := hide' hp
  clear hp
  go_enter Tryd.func45, Tryd.ntmps45
  go_wp2_with fail
  refine HP.out.mono ?_
  rintro x w' ⟨rfl, rfl⟩
  go_wp2
  go_ret
  exact ⟨rfl, rfl⟩

set_option maxHeartbeats 1000000 in
theorem pathV_goes (nE : Nat) (e : E) (s : ByteArray) (dn : List ByteArray) (W : World) (hp : Calls Tryd.prog 38 #[ev e] W fun x w' => x = .returned (.tuple #[.string s, .bool true]) ∧ w' = W) (fin : Bool)
    (hpl : Places nE dn W) (hd : dn.length ≤ 1000000) :
    Calls Tryd.prog 45 #[ev e, .bool fin, .pointer (some ⟨nE, 0, none⟩)] W fun x w' => x = .returned (.int .i64 0) ∧ Places nE (dn ++ [s]) w' ∧ Kp (SP nE) W w' := by
  obtain ⟨i0, hi, hz0, hz1, hz2⟩ := info_parts info9
  have HP := hide' hp
  clear hp
  obtain ⟨v, hbox, hrow⟩ := hpl
  have hbl := lt_of_heap hbox
  have hc : W.cell? ⟨nE, 0, none⟩ = some v := by simp [World.cell?, hbox]
  have hnr : v.ownBlock ≠ some nE := fun e => by
    obtain ⟨_, c, hc⟩ := row_of_own hrow _ e
    rw [hbox] at hc
    cases hc
  go_enter Tryd.func45, Tryd.ntmps45
  go_wp2_with fail
  refine HP.out.mono ?_
  rintro x w' ⟨rfl, rfl⟩
  rename_i W
  go_wp2_with (at_builtin; refine wpList_append_own _ rfl _ _ 47 rfl nE 9 i0 (.string ⟨#[]⟩) 1 16 Tryd.underlying47 hi hz0 hz1 hz2 rfl (by decide) _ _ _ rfl (hrow.alloc _) ⟨w'.heap.size, 0, none⟩ 1 1 [.string s] rfl rfl (cell_one_new _ _ _) (by simp [Value.oneCell']) (by unfold maxLen; omega) (by omega) (by simp; omega) ?_; intro v' w1 hown' hgrow _; obtain ⟨g', cap', rfl⟩ := ownsRow_succ hown'; have hb1 : w1.heap[nE]? = some (.cells #[v] 47 (0, 0)) := (hgrow.block nE (Nat.lt_of_lt_of_le hbl (by simp)) (fun e => hnr e.symm)).trans ((Below.heap_alloc _ _ _ hbl).trans hbox); have hc1 : w1.cell? ⟨nE, 0, none⟩ = some v := (by simp [World.cell?, hb1]); have hf1 : w1.frozen? ⟨nE, 0, none⟩ = false := (by simp [World.frozen?, hb1]))
  go_ret
  have hg2 : (w'.alloc (.cells #[.string s] 9)).grownBy w1 v.ownBlock := hgrow
  refine ⟨rfl, ⟨_, set_box hb1 _, ?_⟩, ?_⟩
  · have h := hown'.kept (grownBy_setCell' w1 nE (.slice (some ⟨g', 0, none⟩) (dn.length + 1) cap')) (.inr (fun e => by
      obtain ⟨_, c, hc⟩ := row_of_own hown' _ e
      rw [hb1] at hc
      cases hc))
    simpa [strs] using h
  · refine Kp.setCell (Kp.grown ((Kp.refl _ w').alloc _) hg2 ?_) _ (fun o _ => .inl rfl) _
    intro k o hk ho
    obtain ⟨h1, c, hc⟩ := row_of_own hrow k hk
    rw [hc] at ho
    cases ho
    exact .inr ⟨h1, _, _, rfl⟩

theorem SP_low {nE : Nat} {k : Nat} {o : Obj} (h : SP nE k o) : nE ≤ k := by
  rcases h with rfl | h
  · exact Nat.le_refl _
  · exact h.1

/- a box and a row, through what the walk itself turns -/
theorem So_keep {n1 : Nat} {W W' : World} (hk : Kp (So n1) W W') (k : Nat) (c : Array Value) (t : TypeId) (h1 : t ≠ 81) (h2 : t ≠ 82) (hh : W.heap[k]? = some (.cells c t (0, 0))) : W'.heap[k]? = some (.cells c t (0, 0)) :=
  hk.same k _ hh (fun hs => by
    rcases hs.2 with ⟨_, _, e⟩ | ⟨_, _, e⟩ | e
    · cases e; exact h1 rfl
    · cases e; exact h2 rfl
    · cases e)

theorem So_row {n1 base : Nat} {e : TypeId} {size n : Nat} {v : Value} {xs : List Value} {W W' : World} (hk : Kp (So n1) W W') (h1 : e ≠ 81) (h2 : e ≠ 82) (h : W.ownsRow base e size v n xs) : W'.ownsRow base e size v n xs := by
  refine ⟨h.1, ?_⟩
  rcases h.2 with h0 | ⟨g, cap, cur, hv, hg, hh, rest⟩
  · exact .inl h0
  · exact .inr ⟨g, cap, cur, hv, hg, So_keep hk _ _ _ h1 h2 hh, rest⟩

theorem Places.stay {nE n1 : Nat} {dn : List ByteArray} {W W' : World} (h : Places nE dn W) (hk : Kp (So n1) W W') : Places nE dn W' := by
  obtain ⟨v, h1, h2⟩ := h
  exact ⟨v, So_keep hk _ _ _ (by decide) (by decide) h1, So_row hk (by decide) (by decide) h2⟩

def JP (nE : Nat) (full : List ByteArray) (m : Nat) (st : St) (W : World) : Prop :=
  ∃ dn, Places nE dn W ∧ ((st = [] ∧ full = dn) ∨ ∃ x i, st = [x] ∧ (∃ k, IsErr W nE k x.1 i ∧ 0 ≤ x.2 ∧ x.2 + k ≤ 100000) ∧ m = i.size ∧ full = dn ++ i.path)

theorem pathVisits (nE : Nat) (full : List ByteArray) (hfull : full.length ≤ 1000000) :
    Visits 45 #[.pointer (some ⟨nE, 0, none⟩)] (SP nE) (JP nE full) (fun W => Places nE full W) (nE + 1) where
  enters := enters_of Tryd.func45 (by kernel_rfl) rfl
  len := by
    rintro m st W ⟨dn, _, ⟨rfl, _⟩ | ⟨x, i, rfl, _⟩⟩ <;> simp
  stay := by
    rintro m st W W' ⟨dn, h1, h2⟩ hk
    have hlow := low_kept (nE := nE) hk (fun k o hs => by have := hs.1; omega)
    refine ⟨dn, h1.stay hk, ?_⟩
    rcases h2 with h2 | ⟨x, i, h3, ⟨k, h4, h5⟩, h6⟩
    · exact .inl h2
    · exact .inr ⟨x, i, h3, ⟨k, h4.kept hlow, h5⟩, h6⟩
  stayEnd := fun W W' h hk => h.stay hk
  done := by
    rintro m W ⟨dn, h1, ⟨_, rfl⟩ | ⟨x, i, h, _⟩⟩
    · exact h1
    · cases h
  apart := by
    rintro k o hk (rfl | ⟨_, _, _, rfl⟩)
    · omega
    · rintro ((⟨_, _, e⟩ | ⟨_, _, e⟩ | e) | ⟨_, _, e⟩ | ⟨_, _, e⟩) <;> cases e
  step := by
    rintro m x d st W hsz ⟨dn, h1, ⟨h, _⟩ | ⟨x', i, hst, ⟨k, hE, hd0, hd1⟩, rfl, hf⟩⟩
    · cases h
    cases hst
    refine ⟨hd0, by simp at hd1; omega, ?_⟩
    simp only at hE hd0 hd1
    have hdl : dn.length ≤ 1000000 := by
      have := congrArg List.length hf
      simp at this
      omega
    have lowW : ∀ W' w'', Below W.heap.size W W' → Kp (SP nE) W' w'' → ∀ b o, b < nE → W.heap[b]? = some o → w''.heap[b]? = some o := fun W' w'' hB hk b o hb ho =>
      low_kept hk (fun _ _ => SP_low) b o hb ((hB.block b (lt_of_heap ho)).trans ho)
    have plW : ∀ W', Below W.heap.size W W' → Places nE dn W' := fun W' hB => h1.stay (n1 := nE) (Kp.ofBelow hB)
    match k, hE, hd1 with
    | k + 1, hE, hd1 =>
    rcases hE with ⟨c, rfl, hc, rfl⟩ | ⟨b, c, s, hb, rfl, hh, hc, rfl⟩ | ⟨b, s, e1, i1, hb, rfl, hh, hE1, rfl⟩ | ⟨b, e1, e2, i1, i2, hb, rfl, hh, hE1, hE2, rfl⟩
    · refine ⟨[], by simp, kids_37 W _, fun W' hB => ?_⟩
      refine (pathV_stop nE (37, .int .i64 c) W' (place_37 _ W') true).mono ?_
      rintro y w'' ⟨rfl, rfl⟩
      exact ⟨2, rfl, Kp.refl _ _, .inl ⟨rfl, by simp at hf; subst hf; exact plW _ hB⟩⟩
    · refine ⟨[], by simp, kids_root W b c s hh, fun W' hB => ?_⟩
      refine (pathV_goes nE (74, .pointer (some ⟨b, 0, none⟩)) s dn W' (place_root b c s W' ((hB.block b (lt_of_heap hh)).trans hh) hc) true (plW W' hB) hdl).mono ?_
      rintro y w'' ⟨rfl, hp1, hk1⟩
      exact ⟨0, rfl, hk1, .inr (.inr ⟨rfl, 0, by simp, _, hp1, .inl ⟨rfl, by simpa using hf⟩⟩)⟩
    · refine ⟨[e1], by simp, kids_wrap W b s e1 hh, fun W' hB => ?_⟩
      refine (pathV_goes nE (74, .pointer (some ⟨b, 0, none⟩)) s dn W' (place_wrap b s e1 W' ((hB.block b (lt_of_heap hh)).trans hh)) false (plW W' hB) hdl).mono ?_
      rintro y w'' ⟨rfl, hp1, hk1⟩
      exact ⟨0, rfl, hk1, .inr (.inr ⟨rfl, i1.size, by simp, _, hp1, .inr ⟨(e1, d + 1), i1, rfl, ⟨k, hE1.kept (lowW W' w'' hB hk1), by simp; omega, by simp; omega⟩, rfl, by simpa using hf⟩⟩)⟩
    · refine ⟨[e1, e2], by simp, kids_pair W b e1 e2 hh, fun W' hB => ?_⟩
      refine (pathV_stop nE (77, .pointer (some ⟨b, 0, none⟩)) W' (place_77 _ W') false).mono ?_
      rintro y w'' ⟨rfl, rfl⟩
      exact ⟨2, rfl, Kp.refl _ _, .inl ⟨rfl, by simp at hf; subst hf; exact plW _ hB⟩⟩

set_option maxHeartbeats 1000000 in
theorem path_any (e : E) (i : Info) (k : Nat) (w : World) (hE : IsErr w w.heap.size k e i) (hk : k ≤ 100000) (ht : i.path.length ≤ 1000000) :
    Calls Tryd.prog 21 #[ev e] w fun x w' => ∃ v, x = .returned v ∧ w'.ownsRow w.heap.size 9 1 v i.path.length (strs i.path) ∧ Below w.heap.size w w' := by
  have H : Hid (IsErr w w.heap.size k e i ∧ k ≤ 100000 ∧ i.path.length ≤ 1000000) := ⟨hE, hk, ht⟩
  clear hE hk ht
  go_enter Tryd.func21, Tryd.ntmps21
  go_wp2_with fail
  obtain ⟨hE, hk, ht⟩ := H.out
  have hB1 : (w.alloc (.cells #[.slice none 0 0] 47)).heap[w.heap.size]? = some (.cells #[.slice none 0 0] 47 (0, 0)) := World.alloc_heap_new w _
  have hJ0 : JP w.heap.size i.path i.size [(e, 0)] (w.alloc (.cells #[.slice none 0 0] 47)) := by
    refine ⟨[], ⟨_, hB1, World.ownsRow_nil _ _ _ _⟩, .inr ⟨(e, 0), i, rfl, ⟨k, hE.kept ?_, by simp, by simp; omega⟩, rfl, by simp⟩⟩
    intro b o _ ho
    exact (Below.heap_alloc _ _ _ (lt_of_heap ho)).trans ho
  refine (walk_any 45 _ (SP w.heap.size) (JP w.heap.size i.path) (fun W => Places w.heap.size i.path W) i.size _ e (by simpa using pathVisits w.heap.size i.path ht) hJ0).mono ?_
  rintro y w1 ⟨rfl, ⟨v, hb1, hr1⟩, hk1⟩
  have hc1 : w1.cell? ⟨w.heap.size, 0, none⟩ = some v := by simp [World.cell?, hb1]
  go_wp2
  go_ret
  exact ⟨v, rfl, hr1, Below.trans ((Below.refl _ _).alloc (Nat.le_refl _) _) (hk1.below (by simp) (fun k o => SP_low))⟩

end Go.Proofs.YtogninhgibbfnaaDoor
