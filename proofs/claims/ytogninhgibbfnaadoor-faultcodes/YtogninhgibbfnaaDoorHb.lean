/- Has, of every error in memory. -/
import Derived.Test.YtogninhgibbfnaaDoorHa
namespace Go.Proofs.YtogninhgibbfnaaDoor
open Go.RowKit Go.Shelf
set_option maxRecDepth 100000
attribute [local go_sem] not_any mf_any ev

def ansH (d : Int) (i : Info) : Option Unit := if i.codes.contains d then some () else none
def oC (d : Int) : Obj := .cells #[.int .i64 d] 37 (0, 0)
def FinH (nE : Nat) (d : Int) (a : Option Unit) (W : World) : Prop := W.heap[nE]? = some (oC d) ∧ W.heap[nE + 1]? = some (oB a.isSome)

set_option maxHeartbeats 1000000 in
theorem hasV_hit (nE : Nat) (x : E) (d : Int) (W : World) (h0 : W.heap[nE]? = some (oC d)) (h1 : W.heap[nE + 1]? = some (oB false)) (q : Value) (ht : IsTells x d true W) :
    Calls Tryd.prog 35 #[ev x, .bool true, .pointer (some ⟨nE, 0, none⟩), .pointer (some ⟨nE + 1, 0, none⟩), q] W fun e w' => e = .returned (.int .i64 2) ∧ FinH nE d (some ()) w' ∧ Kp (SS nE) W w' := by
  have HT := hide1 ht
  clear ht
  unfold oC at h0
  unfold oB at h1
  have c0 : W.cell? ⟨nE, 0, none⟩ = some (.int .i64 d) := by simp [World.cell?, h0]
  go_enter Tryd.func35, Tryd.ntmps35
  go_wp2_with fail
  refine (is36_any x true d W HT.out).mono ?_
  rintro y w1 ⟨rfl, hB⟩
  have g0 := (hB.block _ (lt_of_heap h0)).trans h0
  have g1 := (hB.block _ (lt_of_heap h1)).trans h1
  have c1 : w1.cell? ⟨nE + 1, 0, none⟩ = some (.bool false) := by simp [World.cell?, g1]
  have f1 : w1.frozen? ⟨nE + 1, 0, none⟩ = false := by simp [World.frozen?, g1]
  go_wp2
  go_ret
  exact ⟨rfl, ⟨(Below.heap_setCell _ _ _ _ (by simp)).trans g0, set_box g1 _⟩, (Kp.ofBelow hB).trans ((Kp.refl _ _).setCell _ (fun _ _ => .inr (.inl rfl)) _)⟩

set_option maxHeartbeats 1000000 in
theorem hasV_in (nE : Nat) (x : E) (W : World) (p q : Value) (h4 : W.heap[nE + 4]? = some (.cells #[.func (.func 51) #[] #[.pointer (some ⟨nE + 3, 0, none⟩)]] 64 (0, 0))) (R : Ending → World → Prop)
    (hR : ∀ W1, Below W.heap.size W W1 → Calls Tryd.prog 51 #[ev x, .pointer (some ⟨nE + 3, 0, none⟩)] W1 (fun e w' => (∃ s, e = .returned (.int .i64 s)) ∧ R e w')) :
    Calls Tryd.prog 35 #[ev x, .bool false, p, q, .pointer (some ⟨nE + 4, 0, none⟩)] W (fun e w' => (∃ s, e = .returned (.int .i64 s)) ∧ R e w') := by
  have c4 : W.cell? ⟨nE + 4, 0, none⟩ = some (.func (.func 51) #[] #[.pointer (some ⟨nE + 3, 0, none⟩)]) := by simp [World.cell?, h4]
  have H := hide1 hR
  clear hR h4
  go_enter Tryd.func35, Tryd.ntmps35
  go_wp2_with fail
  refine (H.out W (Below.refl _ _)).mono ?_
  rintro y w2 ⟨⟨s, rfl⟩, hR⟩
  go_wp2
  go_ret
  exact ⟨⟨s, rfl⟩, hR⟩

set_option maxHeartbeats 1000000 in
theorem hasV_leaf (nE : Nat) (x : E) (d : Int) (W : World) (q : Value) (h0 : W.heap[nE]? = some (oC d)) (ht : IsTells x d false W) (h4 : W.heap[nE + 4]? = some (.cells #[.func (.func 51) #[] #[.pointer (some ⟨nE + 3, 0, none⟩)]] 64 (0, 0))) (R : Ending → World → Prop)
    (hR : ∀ W1, Below W.heap.size W W1 → Calls Tryd.prog 51 #[ev x, .pointer (some ⟨nE + 3, 0, none⟩)] W1 (fun e w' => (∃ s, e = .returned (.int .i64 s)) ∧ R e w')) :
    Calls Tryd.prog 35 #[ev x, .bool true, .pointer (some ⟨nE, 0, none⟩), q, .pointer (some ⟨nE + 4, 0, none⟩)] W (fun e w' => (∃ s, e = .returned (.int .i64 s)) ∧ R e w') := by
  unfold oC at h0
  have c0 : W.cell? ⟨nE, 0, none⟩ = some (.int .i64 d) := by simp [World.cell?, h0]
  have H := hide1 (And.intro hR ht)
  clear hR ht
  go_enter Tryd.func35, Tryd.ntmps35
  go_wp2_with fail
  refine (is36_any x false d W H.out.2).mono ?_
  rintro y w1 ⟨rfl, hB⟩
  have g4 := (hB.block _ (lt_of_heap h4)).trans h4
  have c4 : w1.cell? ⟨nE + 4, 0, none⟩ = some (.func (.func 51) #[] #[.pointer (some ⟨nE + 3, 0, none⟩)]) := by simp [World.cell?, g4]
  go_wp2_with fail
  refine (H.out.1 w1 hB).mono ?_
  rintro y w2 ⟨⟨s, rfl⟩, hR⟩
  go_wp2
  go_ret
  exact ⟨⟨s, rfl⟩, hR⟩

theorem hasSearches (nE : Nat) (d : Int) : Searches 35 #[.pointer (some ⟨nE, 0, none⟩), .pointer (some ⟨nE + 1, 0, none⟩), .pointer (some ⟨nE + 4, 0, none⟩)] nE (oC d) (oB false) (ansH d) (FinH nE d) (fun _ => True) where
  enters := enters_of Tryd.func35 (by kernel_rfl) rfl
  fin0 := fun W h0 h1 => ⟨h0, h1⟩
  finStay := fun a W W' h hl => ⟨hl _ _ (by omega) h.1, hl _ _ (by omega) h.2⟩
  stayG := fun _ _ _ _ => trivial
  at37 := by
    intro c i W hi _ _ h0 h1 h4
    have ht := isTells_errno c d W
    cases hcd : (c == d) with
    | true =>
      rw [hcd] at ht
      refine .inl ⟨(), by simp at hcd; simp [ansH, hi, hcd], ?_⟩
      rw [app5]
      exact hasV_hit nE (37, .int .i64 c) d W h0 h1 _ ht
    | false =>
      rw [hcd] at ht
      refine .inr ⟨by simp at hcd; simp [ansH, hi]; exact fun h => hcd h.symm, fun R hR => ?_⟩
      rw [app5]
      exact hasV_leaf nE (37, .int .i64 c) d W _ h0 ht h4 R hR
  atRoot := by
    intro b c s i W hi hc _ hh _ h0 h1 h4
    have ht := isTells_root b c d s W hh hc
    cases hcd : (c == d) with
    | true =>
      rw [hcd] at ht
      refine .inl ⟨(), by simp at hcd; simp [ansH, hi, hcd], ?_⟩
      rw [app5]
      exact hasV_hit nE (74, .pointer (some ⟨b, 0, none⟩)) d W h0 h1 _ ht
    | false =>
      rw [hcd] at ht
      refine .inr ⟨by simp at hcd; simp [ansH, hi]; exact fun h => hcd h.symm, fun R hR => ?_⟩
      rw [app5]
      exact hasV_leaf nE (74, .pointer (some ⟨b, 0, none⟩)) d W _ h0 ht h4 R hR
  atWrap := by
    intro b s e1 i1 i W hi _ hh _ h0 h1 h4
    refine .inr ⟨by simp [ansH, hi], fun R hR => ?_⟩
    rw [app5]
    exact hasV_in nE (74, .pointer (some ⟨b, 0, none⟩)) W _ _ h4 R hR
  atPair := by
    intro b i1 i2 i W hi _ h0 h1 h4
    refine ⟨?_, fun R hR => ?_⟩
    · subst hi
      cases h1 : i1.codes.contains d <;> cases h2 : i2.codes.contains d <;> simp at h1 h2 <;> simp [ansH, h1, h2]
    · rw [app5]
      exact hasV_in nE (77, .pointer (some ⟨b, 0, none⟩)) W _ _ h4 R hR

set_option maxHeartbeats 1000000 in
theorem has_some (e : E) (i : Info) (d : Int) (k : Nat) (w : World) (hd : (d == 0) = false) (hE : IsErr w w.heap.size k e i) (hk : k ≤ 100000) (hs : i.size ≤ 1000000) :
    Calls Tryd.prog 15 #[ev e, .int .i64 d] w fun x w' => x = .returned (.bool (ansH d i).isSome) ∧ Below w.heap.size w w' := by
  have H := hide1 (And.intro hE (And.intro hk hs))
  clear hE hk hs
  go_enter Tryd.func15, Tryd.ntmps15
  go_wp2_with fail
  refine (once_any _).mono ?_
  rintro y w0 ⟨rfl, rfl⟩
  go_wp2_with fail
  obtain ⟨hE, hk, hs⟩ := H.out
  obtain ⟨W, hW⟩ : ∃ W, (((((w.alloc (.cells #[.int .i64 d] 37)).alloc (.cells #[.bool false] 4)).alloc (.map #[] 0)).alloc (.cells #[.map (some (w.heap.size + 1 + 1))] 90)).alloc (.cells #[.func (.func 51) #[] #[.pointer (some ⟨w.heap.size + 1 + 1 + 1, 0, none⟩)]] 64)) = W := ⟨_, rfl⟩
  have hsz : W.heap.size = w.heap.size + 5 := by rw [← hW]; simp
  have hB : Below w.heap.size w W := by
    rw [← hW]
    repeat (first | exact Below.refl _ _ | refine Below.alloc ?_ (by first | omega | (simp; omega) | simp) _)
  have h0 : W.heap[w.heap.size]? = some (oC d) := by
    rw [← hW]
    exact (Below.heap_alloc _ _ _ (by simp; omega)).trans ((Below.heap_alloc _ _ _ (by simp; omega)).trans ((Below.heap_alloc _ _ _ (by simp; omega)).trans ((Below.heap_alloc _ _ _ (by simp)).trans (World.alloc_heap_new w _))))
  have h1 : W.heap[w.heap.size + 1]? = some (oB false) := by
    rw [← hW]
    refine (Below.heap_alloc _ _ _ (by simp <;> omega)).trans ((Below.heap_alloc _ _ _ (by simp)).trans ((Below.heap_alloc _ _ _ (by simp)).trans ?_))
    have := World.alloc_heap_new (w.alloc (.cells #[.int .i64 d] 37)) (.cells #[.bool false] 4)
    rwa [World.size_alloc] at this
  have h2 : W.heap[w.heap.size + 2]? = some (.map #[] 0) := by
    rw [← hW]
    refine (Below.heap_alloc _ _ _ (by simp)).trans ((Below.heap_alloc _ _ _ (by simp)).trans ?_)
    have := World.alloc_heap_new ((w.alloc (.cells #[.int .i64 d] 37)).alloc (.cells #[.bool false] 4)) (.map #[] 0)
    rwa [World.size_alloc, World.size_alloc] at this
  have h3 : W.heap[w.heap.size + 3]? = some (.cells #[.map (some (w.heap.size + 2))] 90 (0, 0)) := by
    rw [← hW]
    refine (Below.heap_alloc _ _ _ (by simp)).trans ?_
    have := World.alloc_heap_new (((w.alloc (.cells #[.int .i64 d] 37)).alloc (.cells #[.bool false] 4)).alloc (.map #[] 0)) (.cells #[.map (some (w.heap.size + 1 + 1))] 90)
    rwa [World.size_alloc, World.size_alloc, World.size_alloc] at this
  have h4 : W.heap[w.heap.size + 4]? = some (.cells #[.func (.func 51) #[] #[.pointer (some ⟨w.heap.size + 3, 0, none⟩)]] 64 (0, 0)) := by
    rw [← hW]
    have := World.alloc_heap_new ((((w.alloc (.cells #[.int .i64 d] 37)).alloc (.cells #[.bool false] 4)).alloc (.map #[] 0)).alloc (.cells #[.map (some (w.heap.size + 1 + 1))] 90)) (.cells #[.func (.func 51) #[] #[.pointer (some ⟨w.heap.size + 1 + 1 + 1, 0, none⟩)]] 64)
    rwa [World.size_alloc, World.size_alloc, World.size_alloc, World.size_alloc] at this
  rw [hW]
  clear hW
  have hJ0 : JS w.heap.size (oC d) (oB false) (ansH d) (ansH d i) i.size [(e, 0)] W ∧ True := by
    refine ⟨⟨[i], [], ⟨⟨k, hE.kept (fun b o hb ho => (hB.block b hb).trans ho), by simp, by simp; omega⟩, trivial⟩, by simp [total], hs, ?_, (fun y hy => by cases hy), ⟨h3, _, _, h2, ?_⟩, h0, h1, h4⟩, trivial⟩
    · cases hx : ansH d i <;> simp [hx]
    · exact ⟨rfl, (fun m hm => by simp at hm), (fun k hk => by cases hk)⟩
  refine (walk_any 35 _ (SS w.heap.size) (fun m st W => JS w.heap.size (oC d) (oB false) (ansH d) (ansH d i) m st W ∧ True) (fun W => FinH w.heap.size d (ansH d i) W) i.size W e (by rw [hsz]; exact searchVisits 35 _ w.heap.size _ _ (ansH d) _ _ _ (hasSearches w.heap.size d)) hJ0).mono ?_
  rintro y w1 ⟨rfl, hf, hk1⟩
  obtain ⟨hf0, hf1⟩ := hf
  unfold oB at hf1
  have hc1 : w1.cell? ⟨w.heap.size + 1, 0, none⟩ = some (.bool (ansH d i).isSome) := by simp [World.cell?, hf1]
  go_wp2
  go_ret
  exact ⟨rfl, hB.trans (hk1.below (by omega) (fun k o hs => by rcases hs with rfl | rfl | rfl <;> omega))⟩

set_option maxHeartbeats 400000 in
theorem has_zero (e : E) (w : World) :
    Calls Tryd.prog 15 #[ev e, .int .i64 0] w fun x w' => x = .returned (.bool false) ∧ Below w.heap.size w w' := by
  go_enter Tryd.func15, Tryd.ntmps15
  go_wp2
  go_ret
  exact ⟨rfl, (Below.refl _ _).alloc (Nat.le_refl _) _⟩

end Go.Proofs.YtogninhgibbfnaaDoor
