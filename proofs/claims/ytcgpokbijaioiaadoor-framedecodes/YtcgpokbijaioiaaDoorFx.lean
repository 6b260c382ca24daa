/- Code, of an error that is wrapped once. -/
import Derived.Test.YtcgpokbijaioiaaDoorFm
namespace Go.Proofs.YtcgpokbijaioiaaDoor.F
open Go.RowKit Go.Shelf
set_option maxRecDepth 100000
attribute [local go_sem] not_any mf_any ev

/- on the way: the error that wraps, then the root -/
def JW (nE mB pB : Nat) (c : Int) (t s : ByteArray) (m : Nat) (st : St) (W : World) : Prop :=
  W.heap[mB]? = some (.cells #[.int .i64 0, .string t, .iface 74 (.pointer (some ⟨pB, 0, none⟩))] 76 (0, 0)) ∧ W.heap[pB]? = some (.cells #[.int .i64 c, .string s, .nilIface] 76 (0, 0)) ∧ mB < nE ∧ pB < nE ∧ Et W ∧ 0 < nE ∧
    (∃ v, W.heap[nE]? = some (.cells #[v] 34 (0, 0))) ∧ W.heap[nE + 3]? = some (.cells #[.func (.func 36) #[] #[.pointer (some ⟨nE + 2, 0, none⟩)]] 58 (0, 0)) ∧
    ((m = 2 ∧ st = [((74, .pointer (some ⟨mB, 0, none⟩)), 0)] ∧ Seen (nE + 2) (nE + 1) [] W) ∨ (m = 1 ∧ st = [((74, .pointer (some ⟨pB, 0, none⟩)), 1)]))
def SC (nE : Nat) : Nat → Obj → Prop := fun k _ => k = nE ∨ k = nE + 1

theorem et_low {nE : Nat} {W W' : World} (h : Et W) (h0 : 0 < nE) (hl : ∀ b o, b < nE → W.heap[b]? = some o → W'.heap[b]? = some o) : Et W' := by
  have hlt := lt_cell h
  have hx : W.heap[0]? = some W.heap[0] := Array.getElem?_eq_getElem hlt
  exact (World.cell?_of_block (w := W) ((hl 0 _ h0 hx).trans hx.symm)).trans h

theorem wrapVisits (nE mB pB : Nat) (c : Int) (t s : ByteArray) (hc : (c == 0) = false) :
    Visits 24 #[.pointer (some ⟨nE, 0, none⟩), .pointer (some ⟨nE + 3, 0, none⟩)] (SC nE) (JW nE mB pB c t s) (fun W => W.heap[nE]? = some (.cells #[.int .i64 c] 34 (0, 0))) (nE + 4) where
  enters := enters_of Tryd.func24 (by kernel_rfl) rfl
  len := by
    rintro m st W ⟨_, _, _, _, _, _, _, _, ⟨_, rfl, _⟩ | ⟨_, rfl⟩⟩ <;> simp
  stay := by
    rintro m st W W' ⟨h1, h2, h3, h4, h5, h6, ⟨v, h7⟩, h8, h9⟩ hk
    have hl := low_kept hk (fun k o hs => hs.1)
    refine ⟨hl _ _ (by omega) h1, hl _ _ (by omega) h2, h3, h4, et_low h5 h6 (fun b o hb => hl b o (by omega)), h6, ⟨v, hl _ _ (by omega) h7⟩, hl _ _ (by omega) h8, ?_⟩
    rcases h9 with ⟨e1, e2, g1, es, clock, g2, g3, g4, _⟩ | h9
    · exact .inl ⟨e1, e2, hl _ _ (by omega) g1, es, clock, hl _ _ (by omega) g2, g3, g4, fun k hk => by cases hk⟩
    · exact .inr h9
  stayEnd := fun W W' h hk => So_keep hk _ _ _ (by decide) (by decide) h
  done := by
    rintro m W ⟨_, _, _, _, _, _, _, _, ⟨_, h, _⟩ | ⟨_, h⟩⟩ <;> cases h
  apart := by
    rintro k o hk (rfl | rfl) <;> omega
  step := by
    rintro m x d st W hsz ⟨h1, h2, h3, h4, h5, h6, ⟨v, h7⟩, h8, ⟨rfl, h9, hs⟩ | ⟨rfl, h9⟩⟩
    · cases h9
      refine ⟨Int.le_refl 0, by decide, [(74, .pointer (some ⟨pB, 0, none⟩))], by simp, kids_wrap W mB t (74, .pointer (some ⟨pB, 0, none⟩)) h1, fun W' hB => ?_⟩
      have h1' := (hB.block _ (lt_of_heap h1)).trans h1
      refine (codeV_in (74, .pointer (some ⟨mB, 0, none⟩)) _ (nE + 3) (nE + 2) (nE + 1) [] W' ((hB.block _ (lt_of_heap h8)).trans h8) (fun W1 hB1 => isHollow_wrap mB 74 (.pointer (some ⟨pB, 0, none⟩)) W1 ((fault_cells ((hB1.block _ (lt_of_heap h1')).trans h1')).2.2)) ⟨mB, .inl ⟨rfl, _, h1'⟩⟩ (hs.below hB) (by simp)).mono ?_
      rintro e w'' ⟨rfl, hs'', hk''⟩
      have hlow : ∀ b o, b ≠ nE + 1 → W.heap[b]? = some o → w''.heap[b]? = some o := fun b o hb ho => hk''.same b o ((hB.block b (lt_of_heap ho)).trans ho) hb
      exact ⟨0, rfl, hk''.mono (fun k o _ hs => .inr hs), .inr (.inr ⟨rfl, 1, by decide, hlow _ _ (by omega) h1, hlow _ _ (by omega) h2, h3, h4, et_low h5 h6 (fun b o hb => hlow b o (by omega)), h6, ⟨v, hlow _ _ (by omega) h7⟩, hlow _ _ (by omega) h8, .inr ⟨rfl, rfl⟩⟩)⟩
    · cases h9
      refine ⟨by decide, by decide, [], by simp, kids_root W pB c s h2, fun W' hB => ?_⟩
      refine (codeV_root pB nE c v _ W' ((hB.block _ (lt_of_heap h7)).trans h7) ((hB.cell (p := ⟨0, 0, none⟩) (lt_cell h5)).trans h5) ⟨s, (hB.block _ (lt_of_heap h2)).trans h2⟩ hc).mono ?_
      rintro y w'' ⟨rfl, hb1, hk1⟩
      exact ⟨2, rfl, hk1.mono (fun k o _ hs => .inl hs), .inl ⟨rfl, hb1⟩⟩

set_option maxHeartbeats 1000000 in
theorem code_wrap (mB pB : Nat) (c : Int) (t s : ByteArray) (w : World) (he : Et w) (hc : (c == 0) = false) (h1 : w.heap[mB]? = some (.cells #[.int .i64 0, .string t, .iface 74 (.pointer (some ⟨pB, 0, none⟩))] 76 (0, 0)))
    (h2 : w.heap[pB]? = some (.cells #[.int .i64 c, .string s, .nilIface] 76 (0, 0))) :
    Calls Tryd.prog 11 #[.iface 74 (.pointer (some ⟨mB, 0, none⟩))] w fun x w' => x = .returned (.int .i64 c) ∧ Below w.heap.size w w' := by
  have H := hide1 (And.intro he (And.intro hc (And.intro h1 h2)))
  clear he hc h1 h2
  go_enter Tryd.func11, Tryd.ntmps11
  go_wp2_with fail
  refine (once_any _).mono ?_
  rintro y w0 ⟨rfl, rfl⟩
  go_wp2_with fail
  obtain ⟨he, hc, h1, h2⟩ := H.out
  obtain ⟨W, hW⟩ : ∃ W, ((((w.alloc (.cells #[.int .i64 1] 34)).alloc (.map #[] 0)).alloc (.cells #[.map (some (w.heap.size + 1))] 81)).alloc (.cells #[.func (.func 36) #[] #[.pointer (some ⟨w.heap.size + 1 + 1, 0, none⟩)]] 58)) = W := ⟨_, rfl⟩
  have hsz : W.heap.size = w.heap.size + 4 := by rw [← hW]; simp
  have hB : Below w.heap.size w W := by
    rw [← hW]
    repeat (first | exact Below.refl _ _ | refine Below.alloc ?_ (by first | omega | (simp; omega) | simp) _)
  have g0 : W.heap[w.heap.size]? = some (.cells #[.int .i64 1] 34 (0, 0)) := by
    rw [← hW]
    exact (Below.heap_alloc _ _ _ (by simp; omega)).trans ((Below.heap_alloc _ _ _ (by simp; omega)).trans ((Below.heap_alloc _ _ _ (by simp)).trans (World.alloc_heap_new w _)))
  have g1 : W.heap[w.heap.size + 1]? = some (.map #[] 0) := by
    rw [← hW]
    refine (Below.heap_alloc _ _ _ (by simp)).trans ((Below.heap_alloc _ _ _ (by simp)).trans ?_)
    have := World.alloc_heap_new (w.alloc (.cells #[.int .i64 1] 34)) (.map #[] 0)
    rwa [World.size_alloc] at this
  have g2 : W.heap[w.heap.size + 2]? = some (.cells #[.map (some (w.heap.size + 1))] 81 (0, 0)) := by
    rw [← hW]
    refine (Below.heap_alloc _ _ _ (by simp)).trans ?_
    have := World.alloc_heap_new ((w.alloc (.cells #[.int .i64 1] 34)).alloc (.map #[] 0)) (.cells #[.map (some (w.heap.size + 1))] 81)
    rwa [World.size_alloc, World.size_alloc] at this
  have g3 : W.heap[w.heap.size + 3]? = some (.cells #[.func (.func 36) #[] #[.pointer (some ⟨w.heap.size + 2, 0, none⟩)]] 58 (0, 0)) := by
    rw [← hW]
    have := World.alloc_heap_new (((w.alloc (.cells #[.int .i64 1] 34)).alloc (.map #[] 0)).alloc (.cells #[.map (some (w.heap.size + 1))] 81)) (.cells #[.func (.func 36) #[] #[.pointer (some ⟨w.heap.size + 1 + 1, 0, none⟩)]] 58)
    rwa [World.size_alloc, World.size_alloc, World.size_alloc] at this
  rw [hW]
  clear hW
  have hJ0 : JW w.heap.size mB pB c t s 2 [((74, .pointer (some ⟨mB, 0, none⟩)), 0)] W :=
    ⟨(hB.block _ (lt_of_heap h1)).trans h1, (hB.block _ (lt_of_heap h2)).trans h2, lt_of_heap h1, lt_of_heap h2, (hB.cell (p := ⟨0, 0, none⟩) (lt_cell he)).trans he, lt_cell he, ⟨_, g0⟩, g3,
      .inl ⟨rfl, rfl, g2, _, _, g1, rfl, (fun m hm => by simp at hm), (fun k hk => by cases hk)⟩⟩
  refine (walk_any 24 _ (SC w.heap.size) (JW w.heap.size mB pB c t s) (fun W => W.heap[w.heap.size]? = some (.cells #[.int .i64 c] 34 (0, 0))) 2 W (74, .pointer (some ⟨mB, 0, none⟩)) (by rw [hsz]; exact wrapVisits w.heap.size mB pB c t s hc) hJ0).mono ?_
  rintro y w1 ⟨rfl, hb1, hk1⟩
  have hc1 : w1.cell? ⟨w.heap.size, 0, none⟩ = some (.int .i64 c) := by simp [World.cell?, hb1]
  clear H he hc h1 h2 hJ0 g0 g1 g2 g3
  go_wp2
  go_ret
  exact ⟨rfl, hB.trans (hk1.below (by omega) (fun k o hs => by rcases hs with rfl | rfl <;> omega))⟩

end Go.Proofs.YtcgpokbijaioiaaDoor.F
