/- Code; the chapter's example; none stays none. -/
import Derived.Test.YtogninhgibbfnaaDoorN
namespace Go.Proofs.YtogninhgibbfnaaDoor
open Go.RowKit Go.Shelf
set_option maxRecDepth 100000
attribute [local go_sem] not_any mf_any ev

set_option maxHeartbeats 1000000 in
theorem code_any (e : E) (i : Info) (c0 : Int) (cs : List Int) (k : Nat) (w : World) (hE : IsErr w w.heap.size k e i) (hk : k ≤ 100000) (hs : i.size ≤ 1000000) (hc : i.codes = c0 :: cs) (he : Et w) :
    Calls Tryd.prog 14 #[ev e] w fun x w' => x = .returned (.int .i64 c0) ∧ Below w.heap.size w w' := by
  have H := hide1 (And.intro hE (And.intro hk (And.intro hs (And.intro hc he))))
  clear hE hk hs hc he
  go_enter Tryd.func14, Tryd.ntmps14
  go_wp2_with fail
  refine (once_any _).mono ?_
  rintro y w0 ⟨rfl, rfl⟩
  go_wp2_with fail
  obtain ⟨hE, hk, hs, hc, he⟩ := H.out
  obtain ⟨W, hW⟩ : ∃ W, ((((w.alloc (.cells #[.int .i64 1] 37)).alloc (.map #[] 0)).alloc (.cells #[.map (some (w.heap.size + 1))] 90)).alloc (.cells #[.func (.func 51) #[] #[.pointer (some ⟨w.heap.size + 1 + 1, 0, none⟩)]] 64)) = W := ⟨_, rfl⟩
  have hsz : W.heap.size = w.heap.size + 4 := by rw [← hW]; simp
  have hB : Below w.heap.size w W := by
    rw [← hW]
    repeat (first | exact Below.refl _ _ | refine Below.alloc ?_ (by first | omega | (simp; omega) | simp) _)
  have h0 : W.heap[w.heap.size]? = some (.cells #[.int .i64 1] 37 (0, 0)) := by
    rw [← hW]
    exact (Below.heap_alloc _ _ _ (by simp; omega)).trans ((Below.heap_alloc _ _ _ (by simp; omega)).trans ((Below.heap_alloc _ _ _ (by simp)).trans (World.alloc_heap_new w _)))
  have h1 : W.heap[w.heap.size + 1]? = some (.map #[] 0) := by
    rw [← hW]
    refine (Below.heap_alloc _ _ _ (by simp)).trans ((Below.heap_alloc _ _ _ (by simp)).trans ?_)
    have := World.alloc_heap_new (w.alloc (.cells #[.int .i64 1] 37)) (.map #[] 0)
    rwa [World.size_alloc] at this
  have h2 : W.heap[w.heap.size + 2]? = some (.cells #[.map (some (w.heap.size + 1))] 90 (0, 0)) := by
    rw [← hW]
    refine (Below.heap_alloc _ _ _ (by simp)).trans ?_
    have := World.alloc_heap_new ((w.alloc (.cells #[.int .i64 1] 37)).alloc (.map #[] 0)) (.cells #[.map (some (w.heap.size + 1))] 90)
    rwa [World.size_alloc, World.size_alloc] at this
  have h3 : W.heap[w.heap.size + 3]? = some (.cells #[.func (.func 51) #[] #[.pointer (some ⟨w.heap.size + 2, 0, none⟩)]] 64 (0, 0)) := by
    rw [← hW]
    have := World.alloc_heap_new (((w.alloc (.cells #[.int .i64 1] 37)).alloc (.map #[] 0)).alloc (.cells #[.map (some (w.heap.size + 1))] 90)) (.cells #[.func (.func 51) #[] #[.pointer (some ⟨w.heap.size + 1 + 1, 0, none⟩)]] 64)
    rwa [World.size_alloc, World.size_alloc, World.size_alloc] at this
  rw [hW]
  clear hW
  have hJ0 : JC w.heap.size c0 i.size [(e, 0)] W := by
    refine ⟨i, [], cs, [], _, ⟨⟨k, hE.kept (fun b o hb ho => (hB.block b hb).trans ho), by simp, by simp; omega⟩, trivial⟩, by simp [total], hs, hc, (fun y hy => by cases hy), ?_, lt_cell he, ⟨h2, _, _, h1, ?_⟩, h0, h3⟩
    · exact (hB.cell (p := ⟨0, 0, none⟩) (lt_cell he)).trans he
    · exact ⟨rfl, (fun m hm => by simp at hm), (fun k hk => by cases hk)⟩
  refine (walk_any 33 _ (SC w.heap.size) (JC w.heap.size c0) (fun W => W.heap[w.heap.size]? = some (.cells #[.int .i64 c0] 37 (0, 0))) i.size W e (by rw [hsz]; exact codeVisits w.heap.size c0) hJ0).mono ?_
  rintro y w1 ⟨rfl, hb1, hk1⟩
  have hc1 : w1.cell? ⟨w.heap.size, 0, none⟩ = some (.int .i64 c0) := by simp [World.cell?, hb1]
  go_wp2
  go_ret
  exact ⟨rfl, hB.trans (hk1.below (by omega) (fun k o hs => by rcases hs with rfl | rfl <;> omega))⟩


/- a slice that reads as these strings -/
def StrsAt (W : World) (v : Value) (l : List ByteArray) : Prop :=
  ∃ a cap, v = .slice a l.length cap ∧ ∀ j s, l[j]? = some s → ∃ g, a = some ⟨g, 0, none⟩ ∧ W.cell? ⟨g, j, none⟩ = some (.string s)

theorem strsAt_own {W : World} {base : Nat} {v : Value} {l : List ByteArray} (h : W.ownsRow base 9 1 v l.length (strs l)) : StrsAt W v l := by
  have hc := fun g => h.cells (g := g)
  rcases h.2 with ⟨rfl, h0⟩ | ⟨g, cap, cur, rfl, _⟩
  · refine ⟨none, 0, by rw [h0], fun j s hj => ?_⟩
    have : l = [] := by simpa using h0
    subst this
    simp at hj
  · refine ⟨_, cap, rfl, fun j s hj => ⟨g, rfl, ?_⟩⟩
    have := hc g rfl j (.string s) (by simp [strs, hj])
    rwa [addr_add] at this

set_option maxHeartbeats 2000000 in
theorem texts_eq (W : World) (va vb : Value) (l : List ByteArray) (ha : StrsAt W va l) (hb : StrsAt W vb l) (hl : l.length ≤ 1000000) :
    Calls Tryd.prog 20 #[va, vb] W fun e w' => e = .returned (.bool true) ∧ ∃ n, w' = W.drewN n := by
  obtain ⟨a, ca, rfl, ha⟩ := ha
  obtain ⟨b, cb, rfl, hb⟩ := hb
  have HA := hide1 ha
  have HB := hide1 hb
  clear ha hb
  go_enter Tryd.func20, Tryd.ntmps20
  go_wp2
  go_loopw [5] (fun i wr => ∃ k n : Nat, k ≤ l.length ∧ i = .int .i64 k ∧ wr = W.drewN n) (fun i _ => l.length - (intOf i).toNat)
  case atStart => exact ⟨0, 0, Nat.zero_le _, rfl, rfl⟩
  case round =>
    obtain ⟨k, n, hk, rfl, rfl⟩ := hrel
    by_cases hlt : k < l.length
    · obtain ⟨s, hs⟩ : ∃ s, l[k]? = some s := ⟨_, List.getElem?_eq_getElem hlt⟩
      obtain ⟨ga, rfl, hca⟩ := HA.out k s hs
      obtain ⟨gb, rfl, hcb⟩ := HB.out k s hs
      have hca' : (W.drewN n).cell? ⟨ga, k, none⟩ = some (.string s) := hca
      have hcb' : (W.drewN n).cell? ⟨gb, k, none⟩ = some (.string s) := hcb
      go_wp2
      go_quiet (fail)
      all_goals go_wp2
      exact ⟨⟨k + 1, n + nq, by omega, by go_num, rfl⟩, by simp [intOf]; omega⟩
    · have : k = l.length := by omega
      subst this
      go_wp2
      go_ret
      exact ⟨rfl, n, rfl⟩


def sLink : ByteArray := ⟨#[108, 105, 110, 107]⟩
def sTape : ByteArray := ⟨#[116, 97, 112, 101]⟩
def iRoot : Info := ⟨bytes sTape ++ colon ++ bytes (errWord 10), [10], [sTape], sTape, true, 1⟩
def iLink : Info := ⟨bytes sLink ++ colon ++ iRoot.text, iRoot.codes, sLink :: iRoot.path, sLink, true, iRoot.size + 1⟩

/- the chapter's error in memory -/
theorem awake_err (w : World) (n : Nat) (hn : n + 1 < w.heap.size) (h0 : w.heap[n]? = some (.cells #[.int .i64 10, .string sTape, .nilIface] 76 (0, 0))) (h1 : w.heap[n + 1]? = some (.cells #[.int .i64 0, .string sLink, .iface 74 (.pointer (some ⟨n, 0, none⟩))] 76 (0, 0))) :
    IsErr w w.heap.size 2 (74, .pointer (some ⟨n + 1, 0, none⟩)) iLink :=
  .inr (.inr (.inl ⟨n + 1, sLink, (74, .pointer (some ⟨n, 0, none⟩)), iRoot, hn, rfl, h1, .inr (.inl ⟨n, 10, sTape, by omega, rfl, h0, rfl, rfl⟩), rfl⟩))

theorem link_text : (⟨iLink.text.toArray⟩ : ByteArray) = ⟨#[108, 105, 110, 107, 58, 32, 116, 97, 112, 101, 58, 32, 116, 97, 112, 101, 32, 101, 120, 104, 97, 117, 115, 116, 101, 100]⟩ := by decide

set_option maxHeartbeats 2000000 in
theorem awake_any (w : World) (he : Et w) :
    Calls Tryd.prog 7 #[] w fun e w' => e = .returned (.bool true) ∧ Below w.heap.size w w' := by
  have HE := hide1 he
  clear he
  go_enter Tryd.func7, Tryd.ntmps7
  go_wp2_with (first | (go_at_call 23; refine (new_some 10 sTape _ rfl).mono ?_; rintro e w' ⟨rfl, rfl⟩) | (go_at_call 24; refine (wrap_some sLink _ _ _).mono ?_; rintro e w' ⟨rfl, rfl⟩))
  obtain ⟨W, hW⟩ : ∃ W, (w.alloc (.cells #[.int .i64 10, .string sTape, .nilIface] 76)).alloc (.cells #[.int .i64 0, .string sLink, .iface 74 (.pointer (some ⟨w.heap.size, 0, none⟩))] 76) = W := ⟨_, rfl⟩
  have hsz : W.heap.size = w.heap.size + 2 := by rw [← hW]; simp
  have hB : Below w.heap.size w W := by
    rw [← hW]
    exact ((Below.refl _ _).alloc (Nat.le_refl _) _).alloc (by simp) _
  have h0 : W.heap[w.heap.size]? = some (.cells #[.int .i64 10, .string sTape, .nilIface] 76 (0, 0)) := by
    rw [← hW]
    exact (Below.heap_alloc _ _ _ (by simp)).trans (World.alloc_heap_new w _)
  have h1 : W.heap[w.heap.size + 1]? = some (.cells #[.int .i64 0, .string sLink, .iface 74 (.pointer (some ⟨w.heap.size, 0, none⟩))] 76 (0, 0)) := by
    rw [← hW]
    have := World.alloc_heap_new (w.alloc (.cells #[.int .i64 10, .string sTape, .nilIface] 76)) (.cells #[.int .i64 0, .string sLink, .iface 74 (.pointer (some ⟨w.heap.size, 0, none⟩))] 76)
    rwa [World.size_alloc] at this
  rw [hW]
  clear hW
  refine (text_any (74, .pointer (some ⟨w.heap.size + 1, 0, none⟩)) iLink 2 W (awake_err W w.heap.size (by omega) h0 h1) (by omega) (by decide) (by decide)).mono ?_
  rw [link_text]
  rintro y W1 ⟨rfl, hB1⟩
  have h01 := (hB1.block _ (by omega)).trans h0
  have h11 := (hB1.block _ (by omega)).trans h1
  have hz1 := hB1.size
  have hE1 : Et W1 := ((hB.trans (hB1.mono (by omega))).cell (p := ⟨0, 0, none⟩) (lt_cell HE.out)).trans HE.out
  have HX := hide1 (And.intro h01 (And.intro h11 hE1))
  clear h01 h11 hE1 h0 h1
  go_wp2_with fail
  obtain ⟨h01, h11, hE1⟩ := HX.out
  refine (code_any (74, .pointer (some ⟨w.heap.size + 1, 0, none⟩)) iLink 10 [] 2 W1 (awake_err W1 w.heap.size (by omega) h01 h11) (by omega) (by decide) rfl hE1).mono ?_
  rintro y W2 ⟨rfl, hB2⟩
  have h02 := (hB2.block _ (lt_of_heap h01)).trans h01
  have h12 := (hB2.block _ (lt_of_heap h11)).trans h11
  have hz2 := hB2.size
  clear HX hE1
  have HY := hide1 (And.intro h02 h12)
  clear h02 h12 h01 h11
  go_wp2_with fail
  obtain ⟨h02, h12⟩ := HY.out
  refine (path_any (74, .pointer (some ⟨w.heap.size + 1, 0, none⟩)) iLink 2 W2 (awake_err W2 w.heap.size (by omega) h02 h12) (by omega) (by decide)).mono ?_
  rintro y W3 ⟨v, rfl, hr3, hB3⟩
  have HZ := hide1 (hr3.alloc (.cells #[.string sLink, .string sTape] 9))
  clear h02 h12 HY hr3
  go_wp2_with fail
  refine (texts_eq _ v _ [sLink, sTape] (strsAt_own HZ.out) ⟨_, _, rfl, ?_⟩ (by simp)).mono ?_
  · intro j s hj
    match j, hj with
    | 0, hj => simp at hj; subst hj; exact ⟨_, rfl, by simp⟩
    | 1, hj => simp at hj; subst hj; exact ⟨_, rfl, by simp⟩
    | j + 2, hj => simp at hj
  rintro y W4 ⟨rfl, n, rfl⟩
  go_wp2
  go_ret
  refine ⟨rfl, below_drewN ?_ n⟩
  have hz3 := hB3.size
  exact (((hB.trans (hB1.mono (by omega))).trans (hB2.mono (by omega))).trans (hB3.mono (by omega))).alloc (by omega) _

end Go.Proofs.YtogninhgibbfnaaDoor
