/- A search through an error's parts, each of the program's own entered but once. -/
import Derived.Test.YtogninhgibbfnaaDoorQ
namespace Go.Proofs.YtogninhgibbfnaaDoor
open Go.RowKit Go.Shelf
set_option maxRecDepth 100000

def SS (nE : Nat) : Nat → Obj → Prop := fun k _ => k = nE ∨ k = nE + 1 ∨ k = nE + 2

/- what the search still owes to an error that was entered -/
def Owed {α : Type} (ans : Info → Option α) (is : List Info) (i : Info) : Prop :=
  ans i ≠ none → ∃ pre suf, is = pre ++ suf ∧ (∀ j ∈ pre, j.size < i.size) ∧ ∃ j ∈ pre, ans j ≠ none

def JS {α : Type} (nE : Nat) (o0 o1 : Obj) (ans : Info → Option α) (a0 : Option α) (m : Nat) (st : St) (W : World) : Prop :=
  ∃ is ks, Stk W nE st is ∧ m = total is ∧ m ≤ 1000000 ∧ is.findSome? ans = a0 ∧ (∀ y ∈ ks, ∃ k' i', IsErr W nE k' y i' ∧ Owed ans is i') ∧
    Seen (nE + 3) (nE + 2) ks W ∧ W.heap[nE]? = some o0 ∧ W.heap[nE + 1]? = some o1 ∧ W.heap[nE + 4]? = some (.cells #[.func (.func 51) #[] #[.pointer (some ⟨nE + 3, 0, none⟩)]] 64 (0, 0))

theorem JS.stay {α : Type} {nE : Nat} {o0 o1 : Obj} {ans : Info → Option α} {a0 : Option α} {m : Nat} {st : St} {W W' : World} (h : JS nE o0 o1 ans a0 m st W) (hl : ∀ b o, b < nE + 5 → W.heap[b]? = some o → W'.heap[b]? = some o) : JS nE o0 o1 ans a0 m st W' := by
  obtain ⟨is, ks, h1, h2, h3, h4, h5, h8, h9, h10, h11⟩ := h
  have hl' : ∀ b o, b < nE → W.heap[b]? = some o → W'.heap[b]? = some o := fun b o hb => hl b o (by omega)
  refine ⟨is, ks, h1.kept hl', h2, h3, h4, fun y hy => ?_, ?_, hl _ _ (by omega) h9, hl _ _ (by omega) h10, hl _ _ (by omega) h11⟩
  · obtain ⟨k', i', ha, hb⟩ := h5 y hy
    exact ⟨k', i', ha.kept hl', hb⟩
  · exact h8.low hl' (fun y hy => by obtain ⟨k', i', ha, _⟩ := h5 y hy; exact ⟨k', i', ha⟩) (fun o => hl _ o (by omega)) (fun o => hl _ o (by omega))

/- the visitor of a search -/
structure Searches {α : Type} (V : FuncId) (cap : Array Value) (nE : Nat) (o0 o1 : Obj) (ans : Info → Option α) (Fin : Option α → World → Prop) (G : World → Prop) : Prop where
  enters : ∀ args w, (callFunc V args).run Tryd.prog w = .ok (.enter V args) w
  fin0 : ∀ W, W.heap[nE]? = some o0 → W.heap[nE + 1]? = some o1 → Fin none W
  finStay : ∀ a W W', Fin a W → (∀ b o, b < nE + 5 → W.heap[b]? = some o → W'.heap[b]? = some o) → Fin a W'
  stayG : ∀ W W', G W → (∀ b o, b < nE → W.heap[b]? = some o → W'.heap[b]? = some o) → G W'
  at37 : ∀ (c : Int) (i : Info) (W : World), i = ⟨bytes (errWord c), [c], [], ⟨#[]⟩, false, 1⟩ → (c == 0) = false → G W → W.heap[nE]? = some o0 → W.heap[nE + 1]? = some o1 → W.heap[nE + 4]? = some (.cells #[.func (.func 51) #[] #[.pointer (some ⟨nE + 3, 0, none⟩)]] 64 (0, 0)) →
    (∃ a, ans i = some a ∧ Calls Tryd.prog V (#[.iface 37 (.int .i64 c), .bool true] ++ cap) W fun e w' => e = .returned (.int .i64 2) ∧ Fin (some a) w' ∧ Kp (SS nE) W w') ∨
    (ans i = none ∧ ∀ (R : Ending → World → Prop), (∀ W1, Below W.heap.size W W1 → Calls Tryd.prog 51 #[.iface 37 (.int .i64 c), .pointer (some ⟨nE + 3, 0, none⟩)] W1 (fun e w' => (∃ s, e = .returned (.int .i64 s)) ∧ R e w')) → Calls Tryd.prog V (#[.iface 37 (.int .i64 c), .bool true] ++ cap) W (fun e w' => (∃ s, e = .returned (.int .i64 s)) ∧ R e w'))
  atRoot : ∀ (b : Nat) (c : Int) (s : ByteArray) (i : Info) (W : World), i = ⟨bytes s ++ colon ++ bytes (errWord c), [c], [s], s, true, 1⟩ → (c == 0) = false → b < nE → W.heap[b]? = some (.cells #[.int .i64 c, .string s, .nilIface] 76 (0, 0)) → G W → W.heap[nE]? = some o0 → W.heap[nE + 1]? = some o1 → W.heap[nE + 4]? = some (.cells #[.func (.func 51) #[] #[.pointer (some ⟨nE + 3, 0, none⟩)]] 64 (0, 0)) →
    (∃ a, ans i = some a ∧ Calls Tryd.prog V (#[.iface 74 (.pointer (some ⟨b, 0, none⟩)), .bool true] ++ cap) W fun e w' => e = .returned (.int .i64 2) ∧ Fin (some a) w' ∧ Kp (SS nE) W w') ∨
    (ans i = none ∧ ∀ (R : Ending → World → Prop), (∀ W1, Below W.heap.size W W1 → Calls Tryd.prog 51 #[.iface 74 (.pointer (some ⟨b, 0, none⟩)), .pointer (some ⟨nE + 3, 0, none⟩)] W1 (fun e w' => (∃ s, e = .returned (.int .i64 s)) ∧ R e w')) → Calls Tryd.prog V (#[.iface 74 (.pointer (some ⟨b, 0, none⟩)), .bool true] ++ cap) W (fun e w' => (∃ s, e = .returned (.int .i64 s)) ∧ R e w'))
  atWrap : ∀ (b : Nat) (s : ByteArray) (e1 : E) (i1 i : Info) (W : World), i = ⟨bytes s ++ colon ++ i1.text, i1.codes, s :: i1.path, s, true, i1.size + 1⟩ → b < nE → W.heap[b]? = some (.cells #[.int .i64 0, .string s, ev e1] 76 (0, 0)) → G W → W.heap[nE]? = some o0 → W.heap[nE + 1]? = some o1 → W.heap[nE + 4]? = some (.cells #[.func (.func 51) #[] #[.pointer (some ⟨nE + 3, 0, none⟩)]] 64 (0, 0)) →
    (∃ a, ans i = some a ∧ Calls Tryd.prog V (#[.iface 74 (.pointer (some ⟨b, 0, none⟩)), .bool false] ++ cap) W fun e w' => e = .returned (.int .i64 2) ∧ Fin (some a) w' ∧ Kp (SS nE) W w') ∨
    (ans i = ans i1 ∧ ∀ (R : Ending → World → Prop), (∀ W1, Below W.heap.size W W1 → Calls Tryd.prog 51 #[.iface 74 (.pointer (some ⟨b, 0, none⟩)), .pointer (some ⟨nE + 3, 0, none⟩)] W1 (fun e w' => (∃ s, e = .returned (.int .i64 s)) ∧ R e w')) → Calls Tryd.prog V (#[.iface 74 (.pointer (some ⟨b, 0, none⟩)), .bool false] ++ cap) W (fun e w' => (∃ s, e = .returned (.int .i64 s)) ∧ R e w'))
  atPair : ∀ (b : Nat) (i1 i2 i : Info) (W : World), i = ⟨i1.text ++ semi ++ i2.text, i1.codes ++ i2.codes, [], if i1.has then i1.place else i2.place, i1.has || i2.has, i1.size + i2.size + 1⟩ → G W → W.heap[nE]? = some o0 → W.heap[nE + 1]? = some o1 → W.heap[nE + 4]? = some (.cells #[.func (.func 51) #[] #[.pointer (some ⟨nE + 3, 0, none⟩)]] 64 (0, 0)) →
    (ans i = [i1, i2].findSome? ans ∧ ∀ (R : Ending → World → Prop), (∀ W1, Below W.heap.size W W1 → Calls Tryd.prog 51 #[.iface 77 (.pointer (some ⟨b, 0, none⟩)), .pointer (some ⟨nE + 3, 0, none⟩)] W1 (fun e w' => (∃ s, e = .returned (.int .i64 s)) ∧ R e w')) → Calls Tryd.prog V (#[.iface 77 (.pointer (some ⟨b, 0, none⟩)), .bool false] ++ cap) W (fun e w' => (∃ s, e = .returned (.int .i64 s)) ∧ R e w'))

theorem owed_skip {α : Type} {ans : Info → Option α} {i : Info} {is : List Info} {j : Info} (h : Owed ans (i :: is) j) (hi : ans i = none) : Owed ans is j := by
  intro hj
  obtain ⟨pre, suf, h1, h2, k, hk, h3⟩ := h hj
  cases pre with
  | nil => cases hk
  | cons p pre =>
    simp at h1
    obtain ⟨rfl, h1⟩ := h1
    rcases List.mem_cons.1 hk with rfl | hk
    · exact absurd hi h3
    · exact ⟨pre, suf, h1, fun x hx => h2 x (by simp [hx]), k, hk, h3⟩

theorem owed_in {α : Type} {ans : Info → Option α} {i : Info} {is kis : List Info} {j : Info} (h : Owed ans (i :: is) j) (hi : ans i = kis.findSome? ans) (hk : ∀ x ∈ kis, x.size < i.size) : Owed ans (kis ++ is) j := by
  intro hj
  obtain ⟨pre, suf, h1, h2, k, hm, h3⟩ := h hj
  cases pre with
  | nil => cases hm
  | cons p pre =>
    simp at h1
    obtain ⟨rfl, h1⟩ := h1
    have hp := h2 i (by simp)
    refine ⟨kis ++ pre, suf, by simp [h1], fun x hx => ?_, ?_⟩
    · rcases List.mem_append.1 hx with hx | hx
      · have := hk x hx; omega
      · exact h2 x (by simp [hx])
    · rcases List.mem_cons.1 hm with rfl | hm
      · rw [hi] at h3
        have : ∃ x ∈ kis, ans x ≠ none := Classical.byContradiction fun hn => h3 (List.findSome?_eq_none_iff.2 fun x hx => Classical.byContradiction fun hx' => hn ⟨x, hx, hx'⟩)
        obtain ⟨x, hx, hx'⟩ := this
        exact ⟨x, by simp [hx], hx'⟩
      · exact ⟨k, by simp [hm], h3⟩

theorem owed_self {α : Type} {ans : Info → Option α} {i : Info} {is kis : List Info} (hi : ans i = kis.findSome? ans) (hk : ∀ x ∈ kis, x.size < i.size) : Owed ans (kis ++ is) i := by
  intro hj
  rw [hi] at hj
  have : ∃ x ∈ kis, ans x ≠ none := Classical.byContradiction fun hn => hj (List.findSome?_eq_none_iff.2 fun x hx => Classical.byContradiction fun hx' => hn ⟨x, hx, hx'⟩)
  obtain ⟨x, hx, hx'⟩ := this
  exact ⟨kis, is, rfl, hk, x, hx, hx'⟩

theorem owed_top {α : Type} {ans : Info → Option α} {i : Info} {is : List Info} (h : Owed ans (i :: is) i) : ans i = none :=
  Classical.byContradiction fun hn => by
    obtain ⟨pre, suf, h1, h2, k, hm, h3⟩ := h hn
    cases pre with
    | nil => cases hm
    | cons p pre =>
      simp at h1
      have := h2 p (by simp)
      rw [← h1.1] at this
      omega


theorem searchVisits {α : Type} (V : FuncId) (cap : Array Value) (nE : Nat) (o0 o1 : Obj) (ans : Info → Option α) (Fin : Option α → World → Prop) (G : World → Prop) (a0 : Option α) (hV : Searches V cap nE o0 o1 ans Fin G) :
    Visits V cap (SS nE) (fun m st W => JS nE o0 o1 ans a0 m st W ∧ G W) (fun W => Fin a0 W) (nE + 5) where
  enters := hV.enters
  len := by
    rintro m st W ⟨⟨is, ks, h1, rfl, h2, _⟩, _⟩
    have := h1.len
    omega
  stay := by
    rintro m st W W' ⟨h, hG⟩ hk
    have hl := low_kept (nE := nE + 5) hk (fun k o hs => hs.1)
    exact ⟨h.stay hl, hV.stayG _ _ hG (fun b o hb => hl b o (by omega))⟩
  stayEnd := fun W W' h hk => hV.finStay _ _ _ h (low_kept hk (fun k o hs => hs.1))
  done := by
    rintro m W ⟨⟨is, ks, h1, _, _, h4, _, _, h9, h10, _⟩, _⟩
    match is, h1 with
    | [], _ =>
      simp at h4
      subst h4
      exact hV.fin0 W h9 h10
  apart := by
    rintro k o hk (rfl | rfl | rfl) <;> omega
  step := by
    rintro m x d st W hsz ⟨hJ, hG⟩
    have hJ' := hJ
    obtain ⟨is0, ks, hst0, rfl, h3, h4, h5, h8, h9, h10, h11⟩ := hJ
    match is0, hst0 with
    | i :: is, ⟨⟨k, hE, hd0, hd1⟩, hst⟩ =>
    refine ⟨hd0, by simp at hd1; omega, ?_⟩
    simp only at hE hd0 hd1
    have bW : ∀ W', Below W.heap.size W W' → ∀ b o, W.heap[b]? = some o → W'.heap[b]? = some o := fun W' hB b o ho => (hB.block b (lt_of_heap ho)).trans ho
    have gW : ∀ W', Below W.heap.size W W' → G W' := fun W' hB => hV.stayG _ _ hG (fun b o _ => bW W' hB b o)
    -- a hit
    have hit : ∀ (fin : Bool) (ksx : List E) (W' : World) (a : α), Below W.heap.size W W' → ans i = some a →
        (Calls Tryd.prog V (#[ev x, .bool fin] ++ cap) W' fun e w' => e = .returned (.int .i64 2) ∧ Fin (some a) w' ∧ Kp (SS nE) W' w') →
        Calls Tryd.prog V (#[ev x, .bool fin] ++ cap) W' fun e w'' => ∃ s, e = .returned (.int .i64 s) ∧ Kp (SS nE) W' w'' ∧
          ((s = 2 ∧ Fin a0 w'') ∨ (s = 1 ∧ ∃ m', m' < total (i :: is) ∧ JS nE o0 o1 ans a0 m' st w'' ∧ G w'') ∨ (s = 0 ∧ ∃ m', m' < total (i :: is) ∧ JS nE o0 o1 ans a0 m' (ksx.map (fun k => (k, d + 1)) ++ st) w'' ∧ G w'')) := by
      intro fin ksx W' a hB ha hc
      refine hc.mono ?_
      rintro e w'' ⟨rfl, hf, hk⟩
      refine ⟨2, rfl, hk, .inl ⟨rfl, ?_⟩⟩
      simp [ha] at h4
      rw [← h4]
      exact hf
    -- one of the program's own that is no hit
    have inn : ∀ (fin : Bool) (ksx : List E) (kis : List Info) (W' : World), Below W.heap.size W W' → OwnAt W x → ans i = kis.findSome? ans → (∀ j ∈ kis, j.size < i.size) → total (kis ++ is) < total (i :: is) →
        (∀ w'', (∀ b o, b < nE → W.heap[b]? = some o → w''.heap[b]? = some o) → Stk w'' nE (ksx.map (fun k => (k, d + 1)) ++ st) (kis ++ is)) →
        (∀ (R : Ending → World → Prop), (∀ W1, Below W'.heap.size W' W1 → Calls Tryd.prog 51 #[ev x, .pointer (some ⟨nE + 3, 0, none⟩)] W1 (fun e w' => (∃ s, e = .returned (.int .i64 s)) ∧ R e w')) → Calls Tryd.prog V (#[ev x, .bool fin] ++ cap) W' (fun e w' => (∃ s, e = .returned (.int .i64 s)) ∧ R e w')) →
        Calls Tryd.prog V (#[ev x, .bool fin] ++ cap) W' fun e w'' => ∃ s, e = .returned (.int .i64 s) ∧ Kp (SS nE) W' w'' ∧
          ((s = 2 ∧ Fin a0 w'') ∨ (s = 1 ∧ ∃ m', m' < total (i :: is) ∧ JS nE o0 o1 ans a0 m' st w'' ∧ G w'') ∨ (s = 0 ∧ ∃ m', m' < total (i :: is) ∧ JS nE o0 o1 ans a0 m' (ksx.map (fun k => (k, d + 1)) ++ st) w'' ∧ G w'')) := by
      intro fin ksx kis W' hB hown hans hks htot hstk hgo
      by_cases hin : x ∈ ks
      · have hnone : ans i = none := by
          obtain ⟨k', i', ha, hb⟩ := h5 x hin
          have := hE.unique ha
          subst this
          exact owed_top hb
        refine (hgo (fun e w' => e = .returned (.int .i64 1) ∧ Below W'.heap.size W' w') (fun W1 hB1 => ?_)).mono ?_
        · have hB2 : Below W.heap.size W W1 := hB.trans (hB1.mono hB.size)
          refine (once_again x (nE + 3) (nE + 2) ks W1 (hown.kept (Below.owns hB2)) (h8.below hB2) hin).mono ?_
          rintro e w' ⟨rfl, hB3⟩
          exact ⟨⟨_, rfl⟩, rfl, hB1.trans (hB3.mono hB1.size)⟩
        · rintro e w'' ⟨_, rfl, hB3⟩
          have hB4 : Below W.heap.size W w'' := hB.trans (hB3.mono hB.size)
          refine ⟨1, rfl, Kp.ofBelow hB3, .inr (.inl ⟨rfl, total is, ?_, ⟨is, ks, hst.kept (fun b o _ => bW _ hB4 b o), rfl, ?_, ?_, ?_, h8.below hB4, bW _ hB4 _ _ h9, bW _ hB4 _ _ h10, bW _ hB4 _ _ h11⟩, gW _ hB4⟩)⟩
          · have := hE.size_pos
            simp [total]
            omega
          · simp [total] at h3
            omega
          · simpa [hnone] using h4
          · intro y hy
            obtain ⟨k', i', ha, hb⟩ := h5 y hy
            exact ⟨k', i', ha.kept (fun b o _ => bW _ hB4 b o), owed_skip hb hnone⟩
      · refine (hgo (fun e w' => e = .returned (.int .i64 0) ∧ Seen (nE + 3) (nE + 2) (ks ++ [x]) w' ∧ Kp (fun k _ => k = nE + 2) W' w') (fun W1 hB1 => ?_)).mono ?_
        · have hB2 : Below W.heap.size W W1 := hB.trans (hB1.mono hB.size)
          refine (once_new x (nE + 3) (nE + 2) ks W1 (hown.kept (Below.owns hB2)) (h8.below hB2) hin).mono ?_
          rintro e w' ⟨rfl, hs', hk'⟩
          exact ⟨⟨_, rfl⟩, rfl, hs', (Kp.ofBelow hB1).trans hk'⟩
        · rintro e w'' ⟨_, rfl, hs'', hk''⟩
          have hl : ∀ b o, b ≠ nE + 2 → W.heap[b]? = some o → w''.heap[b]? = some o := fun b o hb ho => hk''.same b o (bW _ hB b o ho) hb
          have hlow : ∀ b o, b < nE → W.heap[b]? = some o → w''.heap[b]? = some o := fun b o hb => hl b o (by omega)
          refine ⟨0, rfl, hk''.mono (fun k o _ hs => .inr (.inr hs)), .inr (.inr ⟨rfl, _, htot, ⟨kis ++ is, ks ++ [x], hstk w'' hlow, rfl, by omega, ?_, ?_, hs'', hl _ _ (by omega) h9, hl _ _ (by omega) h10, hl _ _ (by omega) h11⟩, hV.stayG _ _ hG hlow⟩)⟩
          · rw [List.findSome?_append, ← hans, ← h4, List.findSome?_cons]
            cases ans i <;> rfl
          · intro y hy
            rcases List.mem_append.1 hy with hy | hy
            · obtain ⟨k', i', ha, hb⟩ := h5 y hy
              exact ⟨k', i', ha.kept hlow, owed_in hb hans hks⟩
            · obtain rfl := List.mem_singleton.1 hy
              exact ⟨k, i, hE.kept hlow, owed_self hans hks⟩
    match k, hE, hd1 with
    | k + 1, hE, hd1 =>
    rcases hE with ⟨c, rfl, hc, hi⟩ | ⟨b, c, s, hb, rfl, hh, hc, hi⟩ | ⟨b, s, e1, i1, hb, rfl, hh, hE1, hi⟩ | ⟨b, e1, e2, i1, i2, hb, rfl, hh, hE1, hE2, hi⟩
    · refine ⟨[], by simp, kids_37 W _, fun W' hB => ?_⟩
      rcases hV.at37 c i W' hi hc (gW W' hB) (bW _ hB _ _ h9) (bW _ hB _ _ h10) (bW _ hB _ _ h11) with ⟨a, ha, hcall⟩ | ⟨hn, hgo⟩
      · exact hit true [] W' a hB ha hcall
      · refine (hgo (fun e w' => e = .returned (.int .i64 0) ∧ Below W'.heap.size W' w') (fun W1 hB1 => (once_37 _ _ W1).mono (by rintro e w' ⟨rfl, rfl⟩; exact ⟨⟨_, rfl⟩, rfl, hB1⟩))).mono ?_
        rintro e w'' ⟨_, rfl, hB3⟩
        have hB4 : Below W.heap.size W w'' := hB.trans (hB3.mono hB.size)
        refine ⟨0, rfl, Kp.ofBelow hB3, .inr (.inr ⟨rfl, total is, ?_, ⟨is, ks, hst.kept (fun b o _ => bW _ hB4 b o), rfl, ?_, ?_, ?_, h8.below hB4, bW _ hB4 _ _ h9, bW _ hB4 _ _ h10, bW _ hB4 _ _ h11⟩, gW _ hB4⟩)⟩
        · simp [total, hi]
        · simp [total] at h3
          omega
        · simpa [hn] using h4
        · intro y hy
          obtain ⟨k', i', ha, hb⟩ := h5 y hy
          exact ⟨k', i', ha.kept (fun b o _ => bW _ hB4 b o), owed_skip hb hn⟩
    · refine ⟨[], by simp, kids_root W b c s hh, fun W' hB => ?_⟩
      rcases hV.atRoot b c s i W' hi hc hb (bW _ hB _ _ hh) (gW W' hB) (bW _ hB _ _ h9) (bW _ hB _ _ h10) (bW _ hB _ _ h11) with ⟨a, ha, hcall⟩ | ⟨hn, hgo⟩
      · exact hit true [] W' a hB ha hcall
      · exact inn true [] [] W' hB ⟨b, .inl ⟨rfl, _, hh⟩⟩ (by simpa using hn) (fun j hj => by cases hj) (by simp [total, hi]) (fun w'' hl => hst.kept hl) hgo
    · refine ⟨[e1], by simp, kids_wrap W b s e1 hh, fun W' hB => ?_⟩
      rcases hV.atWrap b s e1 i1 i W' hi hb (bW _ hB _ _ hh) (gW W' hB) (bW _ hB _ _ h9) (bW _ hB _ _ h10) (bW _ hB _ _ h11) with ⟨a, ha, hcall⟩ | ⟨hn, hgo⟩
      · exact hit false [e1] W' a hB ha hcall
      · exact inn false [e1] [i1] W' hB ⟨b, .inl ⟨rfl, _, hh⟩⟩ (by rw [hn]; cases hx : ans i1 <;> simp [hx]) (fun j hj => by obtain rfl := List.mem_singleton.1 hj; simp [hi]) (by simp [total, hi]) (fun w'' hl => ⟨⟨k, hE1.kept hl, by simp; omega, by simp; omega⟩, hst.kept hl⟩) hgo
    · refine ⟨[e1, e2], by simp, kids_pair W b e1 e2 hh, fun W' hB => ?_⟩
      obtain ⟨hn, hgo⟩ := hV.atPair b i1 i2 i W' hi (gW W' hB) (bW _ hB _ _ h9) (bW _ hB _ _ h10) (bW _ hB _ _ h11)
      refine inn false [e1, e2] [i1, i2] W' hB ⟨b, .inr ⟨rfl, _, hh⟩⟩ hn (fun j hj => ?_) (by simp [total, hi]; omega) (fun w'' hl => ⟨⟨k, hE1.kept hl, by simp; omega, by simp; omega⟩, ⟨k, hE2.kept hl, by simp; omega, by simp; omega⟩, hst.kept hl⟩) hgo
      simp at hj
      rcases hj with rfl | rfl <;> simp [hi] <;> omega

end Go.Proofs.YtogninhgibbfnaaDoor
