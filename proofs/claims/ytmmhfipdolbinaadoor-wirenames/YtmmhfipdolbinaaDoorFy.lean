/- Path, of an error that New made. -/
import Derived.Test.YtmmhfipdolbinaaDoorFw
import Derived.Test.YtmmhfipdolbinaaDoorFd
namespace Go.Proofs.YtmmhfipdolbinaaDoor.F
open Go.RowKit Go.Shelf
set_option maxRecDepth 100000
attribute [local go_sem] ta74_74 ta77_74 ta100_74 ta103_74 not_any mf_any method_unwrap

theorem place_root (b : Nat) (c : Int) (s : ByteArray) (w : World) (h : w.heap[b]? = some (.cells #[.int .i64 c, .string s, .nilIface] 86 (0, 0))) (hc : (c == 0) = false) :
    Calls Tryd.prog 19 #[.iface 84 (.pointer (some ⟨b, 0, none⟩))] w fun e w' => e = .returned (.tuple #[.string s, .bool true]) ∧ w' = w :=
  place_of b s w (fault_cells h).2.1 (isHollow_root b c w (fault_cells h).1 (fault_cells h).2.2 (ne0 hc))

def Causes (W : World) (v : Value) (ks : List E) : Prop :=
  Calls Tryd.prog 43 #[v] W (fun e w' => ∃ sv, e = .returned sv ∧ Below W.heap.size W w' ∧ IsKids w' sv ks ∧ ∀ q len c, sv = .slice (some ⟨q, 0, none⟩) len c → W.heap.size ≤ q)

theorem kids_root (W : World) (b : Nat) (c : Int) (s : ByteArray) (h : W.heap[b]? = some (.cells #[.int .i64 c, .string s, .nilIface] 86 (0, 0))) : Causes W (.iface 84 (.pointer (some ⟨b, 0, none⟩))) [] := by
  refine (causes_root b W (fault_cells h).2.2).mono ?_
  rintro e w' ⟨rfl, rfl⟩
  exact ⟨_, rfl, (Below.refl _ _).alloc (Nat.le_refl _) _, .inl ⟨rfl, rfl⟩, fun q len c h => by cases h⟩

theorem hide' {p : Prop} (h : p) : Hid p := h

theorem low_kept {nE : Nat} {S : Nat → Obj → Prop} {W W' : World} (h : Kp S W W') (hS : ∀ k o, S k o → nE ≤ k) : ∀ b o, b < nE → W.heap[b]? = some o → W'.heap[b]? = some o :=
  fun b o hb ho => h.same b o ho (fun hs => by have := hS b o hs; omega)

def SP (nE : Nat) : Nat → Obj → Prop := fun k o => k = nE ∨ (nE ≤ k ∧ isRow 9 o)

def strs (l : List ByteArray) : List Value := l.map Value.string

theorem info9 : (Tryd.prog.info? 9).map (fun i => (i.zero, i.size, i.bytes)) = some (some (.string ⟨#[]⟩), 1, 16) := by kernel_rfl

def Places (nE : Nat) (dn : List ByteArray) (W : World) : Prop :=
  ∃ v, W.heap[nE]? = some (.cells #[v] 30 (0, 0)) ∧ W.ownsRow nE 9 1 v dn.length (strs dn)

set_option maxHeartbeats 1000000 in
theorem pathV_goes (nE : Nat) (e : E) (s : ByteArray) (dn : List ByteArray) (W : World) (hp : Calls Tryd.prog 19 #[ev e] W fun x w' => x = .returned (.tuple #[.string s, .bool true]) ∧ w' = W) (fin : Bool)
    (hpl : Places nE dn W) (hd : dn.length ≤ 1000000) :
    Calls Tryd.prog 18 #[ev e, .bool fin, .pointer (some ⟨nE, 0, none⟩)] W fun x w' => x = .returned (.int .i64 0) ∧ Places nE (dn ++ [s]) w' ∧ Kp (SP nE) W w' := by
  obtain ⟨i0, hi, hz0, hz1, hz2⟩ := info_parts info9
  have HP := hide' hp
  clear hp
  obtain ⟨v, hbox, hrow⟩ := hpl
  have hbl := lt_of_heap hbox
  have hc : W.cell? ⟨nE, 0, none⟩ = some v := by simp [World.cell?, hbox]
  have hnr : v.ownBlock ≠ some nE := fun e => by
    obtain ⟨_, c, hc⟩ := row_of_own hrow _ e
    rw [hbox] at hc
    cases hc
  go_enter Tryd.func18, Tryd.ntmps18
  go_wp2_with fail
  refine HP.out.mono ?_
  rintro x w' ⟨rfl, rfl⟩
  rename_i W
  go_wp2_with (at_builtin; refine wpList_append_own _ rfl _ _ 30 rfl nE 9 i0 (.string ⟨#[]⟩) 1 16 Tryd.underlying30 hi hz0 hz1 hz2 rfl (by decide) _ _ _ rfl (hrow.alloc _) ⟨w'.heap.size, 0, none⟩ 1 1 [.string s] rfl rfl (cell_one_new _ _ _) (by simp [Value.oneCell']) (by unfold maxLen; omega) (by omega) (by simp; omega) ?_; intro v' w1 hown' hgrow _; obtain ⟨g', cap', rfl⟩ := ownsRow_succ hown'; have hb1 : w1.heap[nE]? = some (.cells #[v] 30 (0, 0)) := (hgrow.block nE (Nat.lt_of_lt_of_le hbl (by simp)) (fun e => hnr e.symm)).trans ((Below.heap_alloc _ _ _ hbl).trans hbox); have hc1 : w1.cell? ⟨nE, 0, none⟩ = some v := (by simp [World.cell?, hb1]); have hf1 : w1.frozen? ⟨nE, 0, none⟩ = false := (by simp [World.frozen?, hb1]))
  go_ret
  have hg2 : (w'.alloc (.cells #[.string s] 9)).grownBy w1 v.ownBlock := hgrow
  refine ⟨rfl, ⟨_, set_box hb1 _, ?_⟩, ?_⟩
  · have h := hown'.kept (grownBy_setCell' w1 nE (.slice (some ⟨g', 0, none⟩) (dn.length + 1) cap')) (.inr (fun e => by
      obtain ⟨_, c, hc⟩ := row_of_own hown' _ e
      rw [hb1] at hc
      cases hc))
    simpa [strs] using h
  · refine Kp.setCell (Kp.grown ((Kp.refl _ w').alloc _) hg2 ?_) _ (fun o _ => .inl rfl) _
    intro k o hk ho
    obtain ⟨h1, c, hc⟩ := row_of_own hrow k hk
    rw [hc] at ho
    cases ho
    exact .inr ⟨h1, _, _, rfl⟩

theorem SP_low {nE : Nat} {k : Nat} {o : Obj} (h : SP nE k o) : nE ≤ k := by
  rcases h with rfl | h
  · exact Nat.le_refl _
  · exact h.1

theorem So_keep {n1 : Nat} {W W' : World} (hk : Kp (So n1) W W') (k : Nat) (c : Array Value) (t : TypeId) (h1 : t ≠ 88) (h2 : t ≠ 89) (hh : W.heap[k]? = some (.cells c t (0, 0))) : W'.heap[k]? = some (.cells c t (0, 0)) :=
  hk.same k _ hh (fun hs => by
    rcases hs.2 with ⟨_, _, e⟩ | ⟨_, _, e⟩ | e
    · cases e; exact h1 rfl
    · cases e; exact h2 rfl
    · cases e)

theorem So_row {n1 base : Nat} {e : TypeId} {size n : Nat} {v : Value} {xs : List Value} {W W' : World} (hk : Kp (So n1) W W') (h1 : e ≠ 88) (h2 : e ≠ 89) (h : W.ownsRow base e size v n xs) : W'.ownsRow base e size v n xs := by
  refine ⟨h.1, ?_⟩
  rcases h.2 with h0 | ⟨g, cap, cur, hv, hg, hh, rest⟩
  · exact .inl h0
  · exact .inr ⟨g, cap, cur, hv, hg, So_keep hk _ _ _ h1 h2 hh, rest⟩

theorem Places.stay {nE n1 : Nat} {dn : List ByteArray} {W W' : World} (h : Places nE dn W) (hk : Kp (So n1) W W') : Places nE dn W' := by
  obtain ⟨v, h1, h2⟩ := h
  exact ⟨v, So_keep hk _ _ _ (by decide) (by decide) h1, So_row hk (by decide) (by decide) h2⟩

/- the places of an error that New made, in the box nE: on the way -/
def JR (nE b : Nat) (c : Int) (s : ByteArray) (m : Nat) (st : St) (W : World) : Prop :=
  W.heap[b]? = some (.cells #[.int .i64 c, .string s, .nilIface] 86 (0, 0)) ∧ b < nE ∧ ∃ dn, Places nE dn W ∧ ((st = [] ∧ dn = [s]) ∨ (m = 1 ∧ st = [((84, .pointer (some ⟨b, 0, none⟩)), 0)] ∧ dn = []))

theorem pathVisits_root (nE b : Nat) (c : Int) (s : ByteArray) (hc : (c == 0) = false) :
    Visits 18 #[.pointer (some ⟨nE, 0, none⟩)] (SP nE) (JR nE b c s) (fun W => Places nE [s] W) (nE + 1) where
  enters := enters_of Tryd.func18 (by kernel_rfl) rfl
  len := by
    rintro m st W ⟨_, _, dn, _, ⟨rfl, _⟩ | ⟨_, rfl, _⟩⟩ <;> simp
  stay := by
    rintro m st W W' ⟨h0, hb, dn, h1, h2⟩ hk
    have hlow := low_kept (nE := nE) hk (fun k o hs => by have := hs.1; omega)
    exact ⟨hlow b _ hb h0, hb, dn, h1.stay hk, h2⟩
  stayEnd := fun W W' h hk => h.stay hk
  done := by
    rintro m W ⟨_, _, dn, h1, ⟨_, rfl⟩ | ⟨_, h, _⟩⟩
    · exact h1
    · cases h
  apart := by
    rintro k o hk (rfl | ⟨_, _, _, rfl⟩)
    · omega
    · rintro ((⟨_, _, e⟩ | ⟨_, _, e⟩ | e) | ⟨_, _, e⟩ | ⟨_, _, e⟩) <;> cases e
  step := by
    rintro m x d st W hsz ⟨h0, hb, dn, h1, ⟨h, _⟩ | ⟨rfl, hst, rfl⟩⟩
    · cases h
    cases hst
    refine ⟨Int.le_refl 0, by decide, [], by simp, kids_root W b c s h0, fun W' hB => ?_⟩
    have plW : Places nE [] W' := h1.stay (n1 := nE) (Kp.ofBelow hB)
    have h0' := (hB.block b (lt_of_heap h0)).trans h0
    refine (pathV_goes nE (84, .pointer (some ⟨b, 0, none⟩)) s [] W' (place_root b c s W' h0' hc) true plW (by simp)).mono ?_
    rintro y w'' ⟨rfl, hp1, hk1⟩
    exact ⟨0, rfl, hk1, .inr (.inr ⟨rfl, 0, by decide, low_kept hk1 (fun _ _ => SP_low) b _ hb h0', hb, [s], hp1, .inl ⟨rfl, rfl⟩⟩)⟩

set_option maxHeartbeats 1000000 in
theorem path_root (b : Nat) (c : Int) (s : ByteArray) (w : World) (h : w.heap[b]? = some (.cells #[.int .i64 c, .string s, .nilIface] 86 (0, 0))) (hc : (c == 0) = false) :
    Calls Tryd.prog 9 #[ev (84, .pointer (some ⟨b, 0, none⟩))] w fun x w' => ∃ v, x = .returned v ∧ w'.ownsRow w.heap.size 9 1 v 1 (strs [s]) ∧ Below w.heap.size w w' := by
  have H := hide1 (And.intro h hc)
  clear h hc
  go_enter Tryd.func9, Tryd.ntmps9
  go_wp2_with fail
  obtain ⟨h, hc⟩ := H.out
  have hB1 : (w.alloc (.cells #[.slice none 0 0] 30)).heap[w.heap.size]? = some (.cells #[.slice none 0 0] 30 (0, 0)) := World.alloc_heap_new w _
  have hJ0 : JR w.heap.size b c s 1 [((84, .pointer (some ⟨b, 0, none⟩)), 0)] (w.alloc (.cells #[.slice none 0 0] 30)) :=
    ⟨(Below.heap_alloc _ _ _ (lt_of_heap h)).trans h, lt_of_heap h, [], ⟨_, hB1, World.ownsRow_nil _ _ _ _⟩, .inr ⟨rfl, rfl, rfl⟩⟩
  refine (walk_any 18 _ (SP w.heap.size) (JR w.heap.size b c s) (fun W => Places w.heap.size [s] W) 1 _ (84, .pointer (some ⟨b, 0, none⟩)) (by simpa using pathVisits_root w.heap.size b c s hc) hJ0).mono ?_
  rintro y w1 ⟨rfl, ⟨v, hb1, hr1⟩, hk1⟩
  have hc1 : w1.cell? ⟨w.heap.size, 0, none⟩ = some v := by simp [World.cell?, hb1]
  clear H h hc hJ0 hB1
  go_wp2
  go_ret
  exact ⟨v, rfl, hr1, Below.trans ((Below.refl _ _).alloc (Nat.le_refl _) _) (hk1.below (by simp) (fun k o => SP_low))⟩

end Go.Proofs.YtmmhfipdolbinaaDoor.F
