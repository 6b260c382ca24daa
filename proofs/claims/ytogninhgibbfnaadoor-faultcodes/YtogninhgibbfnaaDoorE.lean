/- At, of every error in memory. -/
import Derived.Test.YtogninhgibbfnaaDoorU
namespace Go.Proofs.YtogninhgibbfnaaDoor
open Go.RowKit Go.Shelf
set_option maxRecDepth 100000
attribute [local go_sem] not_any mf_any ev

def ansAt (i : Info) : Option ByteArray := if i.has then some i.place else none
def oS (s : ByteArray) : Obj := .cells #[.string s] 9 (0, 0)
def oB (b : Bool) : Obj := .cells #[.bool b] 4 (0, 0)
def FinAt (nE : Nat) (a : Option ByteArray) (W : World) : Prop := W.heap[nE]? = some (oS (a.getD ⟨#[]⟩)) ∧ W.heap[nE + 1]? = some (oB a.isSome)

set_option maxHeartbeats 1000000 in
theorem atV_hit (nE : Nat) (x : E) (fin : Bool) (s : ByteArray) (W : World) (h0 : W.heap[nE]? = some (oS ⟨#[]⟩)) (h1 : W.heap[nE + 1]? = some (oB false)) (q : Value)
    (hp : Calls Tryd.prog 38 #[ev x] W fun y w' => y = .returned (.tuple #[.string s, .bool true]) ∧ w' = W) :
    Calls Tryd.prog 37 #[ev x, .bool fin, .pointer (some ⟨nE, 0, none⟩), .pointer (some ⟨nE + 1, 0, none⟩), q] W fun e w' => e = .returned (.int .i64 2) ∧ FinAt nE (some s) w' ∧ Kp (SS nE) W w' := by
  have HP := hide1 hp
  clear hp
  unfold oS at h0
  unfold oB at h1
  have c0 : W.cell? ⟨nE, 0, none⟩ = some (.string ⟨#[]⟩) := by simp [World.cell?, h0]
  have f0 : W.frozen? ⟨nE, 0, none⟩ = false := by simp [World.frozen?, h0]
  have hb1 : (W.setCell ⟨nE, 0, none⟩ (.string s)).heap[nE + 1]? = some (.cells #[.bool false] 4 (0, 0)) := (Below.heap_setCell _ _ _ _ (by simp)).trans h1
  have c1 : (W.setCell ⟨nE, 0, none⟩ (.string s)).cell? ⟨nE + 1, 0, none⟩ = some (.bool false) := by simp [World.cell?, hb1]
  have f1 : (W.setCell ⟨nE, 0, none⟩ (.string s)).frozen? ⟨nE + 1, 0, none⟩ = false := by simp [World.frozen?, hb1]
  have hb2 := set_box hb1 (.bool true)
  have c2 : ((W.setCell ⟨nE, 0, none⟩ (.string s)).setCell ⟨nE + 1, 0, none⟩ (.bool true)).cell? ⟨nE + 1, 0, none⟩ = some (.bool true) := by simp [World.cell?, hb2]
  have hb0 := (Below.heap_setCell (W.setCell ⟨nE, 0, none⟩ (.string s)) ⟨nE + 1, 0, none⟩ (.bool true) nE (by simp)).trans (set_box h0 (.string s))
  go_enter Tryd.func37, Tryd.ntmps37
  go_wp2_with fail
  refine HP.out.mono ?_
  rintro y w' ⟨rfl, rfl⟩
  go_wp2
  go_ret
  exact ⟨rfl, ⟨hb0, hb2⟩, ((Kp.refl _ _).setCell _ (fun _ _ => .inl rfl) _).setCell _ (fun _ _ => .inr (.inl rfl)) _⟩

theorem set_same {W : World} {b : Nat} {t : TypeId} {v : Value} (h : W.heap[b]? = some (.cells #[v] t (0, 0))) : ∀ k : Nat, (W.setCell ⟨b, 0, none⟩ v).heap[k]? = W.heap[k]? := fun k => by
  by_cases hk : k = b
  · subst hk
    rw [set_box h v, h]
  · exact Below.heap_setCell _ _ _ _ hk

theorem below_same {W : World} {b : Nat} {t : TypeId} {v : Value} (h : W.heap[b]? = some (.cells #[v] t (0, 0))) : Below W.heap.size W (W.setCell ⟨b, 0, none⟩ v) :=
  ⟨rfl, rfl, rfl, by simp [World.setCell], fun k _ => set_same h k⟩

set_option maxHeartbeats 1000000 in
theorem atV_go (nE : Nat) (x : E) (fin : Bool) (W : World) (h0 : W.heap[nE]? = some (oS ⟨#[]⟩)) (h1 : W.heap[nE + 1]? = some (oB false)) (h4 : W.heap[nE + 4]? = some (.cells #[.func (.func 51) #[] #[.pointer (some ⟨nE + 3, 0, none⟩)]] 64 (0, 0)))
    (hp : Calls Tryd.prog 38 #[ev x] W fun y w' => y = .returned (.tuple #[.string ⟨#[]⟩, .bool false]) ∧ w' = W) (R : Ending → World → Prop)
    (hR : ∀ W1, Below W.heap.size W W1 → Calls Tryd.prog 51 #[ev x, .pointer (some ⟨nE + 3, 0, none⟩)] W1 (fun e w' => (∃ s, e = .returned (.int .i64 s)) ∧ R e w')) :
    Calls Tryd.prog 37 #[ev x, .bool fin, .pointer (some ⟨nE, 0, none⟩), .pointer (some ⟨nE + 1, 0, none⟩), .pointer (some ⟨nE + 4, 0, none⟩)] W (fun e w' => (∃ s, e = .returned (.int .i64 s)) ∧ R e w') := by
  unfold oS at h0
  unfold oB at h1
  have hs0 := set_same h0
  have h1' := (hs0 (nE + 1)).trans h1
  have hs1 := set_same h1'
  have hB : Below W.heap.size W ((W.setCell ⟨nE, 0, none⟩ (.string ⟨#[]⟩)).setCell ⟨nE + 1, 0, none⟩ (.bool false)) := (below_same h0).trans ((below_same h1').mono (by simp [World.setCell]))
  have c0 : W.cell? ⟨nE, 0, none⟩ = some (.string ⟨#[]⟩) := by simp [World.cell?, h0]
  have f0 : W.frozen? ⟨nE, 0, none⟩ = false := by simp [World.frozen?, h0]
  have c1 : (W.setCell ⟨nE, 0, none⟩ (.string ⟨#[]⟩)).cell? ⟨nE + 1, 0, none⟩ = some (.bool false) := by simp [World.cell?, h1']
  have f1 : (W.setCell ⟨nE, 0, none⟩ (.string ⟨#[]⟩)).frozen? ⟨nE + 1, 0, none⟩ = false := by simp [World.frozen?, h1']
  have c2 : ((W.setCell ⟨nE, 0, none⟩ (.string ⟨#[]⟩)).setCell ⟨nE + 1, 0, none⟩ (.bool false)).cell? ⟨nE + 1, 0, none⟩ = some (.bool false) := by simp [World.cell?, hs1, h1']
  have h4' := (hs1 (nE + 4)).trans ((hs0 (nE + 4)).trans h4)
  have c4 : ((W.setCell ⟨nE, 0, none⟩ (.string ⟨#[]⟩)).setCell ⟨nE + 1, 0, none⟩ (.bool false)).cell? ⟨nE + 4, 0, none⟩ = some (.func (.func 51) #[] #[.pointer (some ⟨nE + 3, 0, none⟩)]) := by simp [World.cell?, h4']
  have H := hide1 (And.intro hp (And.intro hR hB))
  clear hp hR hB hs0 hs1 h1' h4' h0 h1 h4
  go_enter Tryd.func37, Tryd.ntmps37
  go_wp2_with fail
  refine H.out.1.mono ?_
  rintro y w' ⟨rfl, rfl⟩
  go_wp2_with fail
  refine (H.out.2.1 _ H.out.2.2).mono ?_
  rintro y w2 ⟨⟨s, rfl⟩, hR⟩
  go_wp2
  go_ret
  exact ⟨⟨s, rfl⟩, hR⟩


theorem app5 (a b c d e : Value) : (#[a, b] ++ #[c, d, e] : Array Value) = #[a, b, c, d, e] := rfl

theorem atSearches (nE : Nat) : Searches 37 #[.pointer (some ⟨nE, 0, none⟩), .pointer (some ⟨nE + 1, 0, none⟩), .pointer (some ⟨nE + 4, 0, none⟩)] nE (oS ⟨#[]⟩) (oB false) ansAt (FinAt nE) (fun _ => True) where
  enters := enters_of Tryd.func37 (by kernel_rfl) rfl
  fin0 := fun W h0 h1 => ⟨h0, h1⟩
  finStay := fun a W W' h hl => ⟨hl _ _ (by omega) h.1, hl _ _ (by omega) h.2⟩
  stayG := fun _ _ _ _ => trivial
  at37 := by
    intro c i W hi _ _ h0 h1 h4
    refine .inr ⟨by simp [ansAt, hi], fun R hR => ?_⟩
    rw [app5]
    exact atV_go nE (37, .int .i64 c) true W h0 h1 h4 (place_37 _ W) R hR
  atRoot := by
    intro b c s i W hi hc _ hh _ h0 h1 h4
    refine .inl ⟨s, by simp [ansAt, hi], ?_⟩
    rw [app5]
    exact atV_hit nE (74, .pointer (some ⟨b, 0, none⟩)) true s W h0 h1 _ (place_root b c s W hh hc)
  atWrap := by
    intro b s e1 i1 i W hi _ hh _ h0 h1 h4
    refine .inl ⟨s, by simp [ansAt, hi], ?_⟩
    rw [app5]
    exact atV_hit nE (74, .pointer (some ⟨b, 0, none⟩)) false s W h0 h1 _ (place_wrap b s e1 W hh)
  atPair := by
    intro b i1 i2 i W hi _ h0 h1 h4
    refine ⟨?_, fun R hR => ?_⟩
    · subst hi
      cases h1 : i1.has <;> cases h2 : i2.has <;> simp [ansAt, h1, h2]
    · rw [app5]
      exact atV_go nE (77, .pointer (some ⟨b, 0, none⟩)) false W h0 h1 h4 (place_77 _ W) R hR

set_option maxHeartbeats 1000000 in
theorem at_any (e : E) (i : Info) (k : Nat) (w : World) (hE : IsErr w w.heap.size k e i) (hk : k ≤ 100000) (hs : i.size ≤ 1000000) :
    Calls Tryd.prog 16 #[ev e] w fun x w' => x = .returned (.tuple #[.string ((ansAt i).getD ⟨#[]⟩), .bool (ansAt i).isSome]) ∧ Below w.heap.size w w' := by
  have H := hide1 (And.intro hE (And.intro hk hs))
  clear hE hk hs
  go_enter Tryd.func16, Tryd.ntmps16
  go_wp2_with fail
  refine (once_any _).mono ?_
  rintro y w0 ⟨rfl, rfl⟩
  go_wp2_with fail
  obtain ⟨hE, hk, hs⟩ := H.out
  obtain ⟨W, hW⟩ : ∃ W, (((((w.alloc (.cells #[.string ⟨#[]⟩] 9)).alloc (.cells #[.bool false] 4)).alloc (.map #[] 0)).alloc (.cells #[.map (some (w.heap.size + 1 + 1))] 90)).alloc (.cells #[.func (.func 51) #[] #[.pointer (some ⟨w.heap.size + 1 + 1 + 1, 0, none⟩)]] 64)) = W := ⟨_, rfl⟩
  have hsz : W.heap.size = w.heap.size + 5 := by rw [← hW]; simp
  have hB : Below w.heap.size w W := by
    rw [← hW]
    repeat (first | exact Below.refl _ _ | refine Below.alloc ?_ (by first | omega | (simp; omega) | simp) _)
  have h0 : W.heap[w.heap.size]? = some (oS ⟨#[]⟩) := by
    rw [← hW]
    exact (Below.heap_alloc _ _ _ (by simp; omega)).trans ((Below.heap_alloc _ _ _ (by simp; omega)).trans ((Below.heap_alloc _ _ _ (by simp; omega)).trans ((Below.heap_alloc _ _ _ (by simp)).trans (World.alloc_heap_new w _))))
  have h1 : W.heap[w.heap.size + 1]? = some (oB false) := by
    rw [← hW]
    refine (Below.heap_alloc _ _ _ (by simp <;> omega)).trans ((Below.heap_alloc _ _ _ (by simp)).trans ((Below.heap_alloc _ _ _ (by simp)).trans ?_))
    have := World.alloc_heap_new (w.alloc (.cells #[.string ⟨#[]⟩] 9)) (.cells #[.bool false] 4)
    rwa [World.size_alloc] at this
  have h2 : W.heap[w.heap.size + 2]? = some (.map #[] 0) := by
    rw [← hW]
    refine (Below.heap_alloc _ _ _ (by simp)).trans ((Below.heap_alloc _ _ _ (by simp)).trans ?_)
    have := World.alloc_heap_new ((w.alloc (.cells #[.string ⟨#[]⟩] 9)).alloc (.cells #[.bool false] 4)) (.map #[] 0)
    rwa [World.size_alloc, World.size_alloc] at this
  have h3 : W.heap[w.heap.size + 3]? = some (.cells #[.map (some (w.heap.size + 2))] 90 (0, 0)) := by
    rw [← hW]
    refine (Below.heap_alloc _ _ _ (by simp)).trans ?_
    have := World.alloc_heap_new (((w.alloc (.cells #[.string ⟨#[]⟩] 9)).alloc (.cells #[.bool false] 4)).alloc (.map #[] 0)) (.cells #[.map (some (w.heap.size + 1 + 1))] 90)
    rwa [World.size_alloc, World.size_alloc, World.size_alloc] at this
  have h4 : W.heap[w.heap.size + 4]? = some (.cells #[.func (.func 51) #[] #[.pointer (some ⟨w.heap.size + 3, 0, none⟩)]] 64 (0, 0)) := by
    rw [← hW]
    have := World.alloc_heap_new ((((w.alloc (.cells #[.string ⟨#[]⟩] 9)).alloc (.cells #[.bool false] 4)).alloc (.map #[] 0)).alloc (.cells #[.map (some (w.heap.size + 1 + 1))] 90)) (.cells #[.func (.func 51) #[] #[.pointer (some ⟨w.heap.size + 1 + 1 + 1, 0, none⟩)]] 64)
    rwa [World.size_alloc, World.size_alloc, World.size_alloc, World.size_alloc] at this
  rw [hW]
  clear hW
  have hJ0 : JS w.heap.size (oS ⟨#[]⟩) (oB false) ansAt (ansAt i) i.size [(e, 0)] W ∧ True := by
    refine ⟨⟨[i], [], ⟨⟨k, hE.kept (fun b o hb ho => (hB.block b hb).trans ho), by simp, by simp; omega⟩, trivial⟩, by simp [total], hs, ?_, (fun y hy => by cases hy), ⟨h3, _, _, h2, ?_⟩, h0, h1, h4⟩, trivial⟩
    · cases hx : ansAt i <;> simp [hx]
    · exact ⟨rfl, (fun m hm => by simp at hm), (fun k hk => by cases hk)⟩
  refine (walk_any 37 _ (SS w.heap.size) (fun m st W => JS w.heap.size (oS ⟨#[]⟩) (oB false) ansAt (ansAt i) m st W ∧ True) (fun W => FinAt w.heap.size (ansAt i) W) i.size W e (by rw [hsz]; exact searchVisits 37 _ w.heap.size _ _ ansAt _ _ _ (atSearches w.heap.size)) hJ0).mono ?_
  rintro y w1 ⟨rfl, hf, hk1⟩
  obtain ⟨hf0, hf1⟩ := hf
  unfold oS at hf0
  unfold oB at hf1
  have hc0 : w1.cell? ⟨w.heap.size, 0, none⟩ = some (.string ((ansAt i).getD ⟨#[]⟩)) := by simp [World.cell?, hf0]
  have hc1 : w1.cell? ⟨w.heap.size + 1, 0, none⟩ = some (.bool (ansAt i).isSome) := by simp [World.cell?, hf1]
  go_wp2
  go_quiet (fail)
  go_wp2
  go_ret2
  exact ⟨rfl, below_drewN (hB.trans (hk1.below (by omega) (fun k o hs => by rcases hs with rfl | rfl | rfl <;> omega))) _⟩

end Go.Proofs.YtogninhgibbfnaaDoor
