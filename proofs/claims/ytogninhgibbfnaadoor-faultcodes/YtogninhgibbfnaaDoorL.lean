/- The document's list of errors, plainly: nodes, and what each tells. -/
import Derived.Test.YtogninhgibbfnaaDoorD
namespace Go.Proofs.YtogninhgibbfnaaDoor
open Go.RowKit Go.Shelf

structure Rw where
  kind : Int
  code : Int
  wh : ByteArray
  a : Int
  b : Int

def zRw : Rw := ⟨0, 0, ⟨#[]⟩, 0, 0⟩
def rwCells (r : Rw) : List Value := [.int .i64 r.kind, .int .i64 r.code, .string r.wh, .int .i64 r.a, .int .i64 r.b]
def rowsOf (l : List Rw) : List Value := l.flatMap rwCells

theorem rowsOf_length (l : List Rw) : (rowsOf l).length = l.length * 5 := by
  induction l with
  | nil => rfl
  | cons x l ih => simp [rowsOf, rwCells] at ih ⊢; omega

theorem rowsOf_append (l m : List Rw) : rowsOf (l ++ m) = rowsOf l ++ rowsOf m := by simp [rowsOf]

theorem rowsOf_get (l : List Rw) (n : Nat) (r : Rw) (h : l[n]? = some r) (j : Nat) (hj : j < 5) : (rowsOf l)[n * 5 + j]? = (rwCells r)[j]? := by
  induction l generalizing n with
  | nil => simp at h
  | cons x l ih =>
    cases n with
    | zero =>
      simp at h
      subst h
      show (rwCells x ++ rowsOf l)[0 * 5 + j]? = _
      rw [List.getElem?_append_left (by simp [rwCells]; omega)]
      simp
    | succ n =>
      simp at h
      have := ih n h
      have e : (n + 1) * 5 + j = 5 + (n * 5 + j) := by omega
      rw [e]
      show (rwCells x ++ rowsOf l)[5 + (n * 5 + j)]? = _
      rw [List.getElem?_append_right (by simp [rwCells])]
      simpa [rwCells] using this

/- what a step's A or B means -/
def look {α : Type} (l : List α) (x : Int) : Option α := if x < 0 then none else l[x.toNat]?
def atI (n : Nat) (x : Int) : Int := if x < 0 ∨ (n : Int) ≤ x then -1 else x
def kindI (l : List Rw) (x : Int) : Int := match look l x with | some r => r.kind | none => 0

theorem look_at {α : Type} (l : List α) (x : Int) : look l (atI l.length x) = look l x := by
  unfold look atI
  by_cases h : x < 0
  · simp [h]
  · by_cases h2 : (l.length : Int) ≤ x
    · simp [h, h2]; omega
    · simp [h, h2]

def nodeOf (l : List Rw) (s : Rw) : Rw :=
  if s.kind = 0 then (if s.code = 0 then zRw else ⟨1, s.code, s.wh, 0, 0⟩)
  else if s.kind = 1 then (if s.code = 0 then zRw else ⟨2, s.code, ⟨#[]⟩, 0, 0⟩)
  else if s.kind = 2 then (if kindI l s.a = 0 then zRw else ⟨3, 0, s.wh, atI l.length s.a, 0⟩)
  else if s.kind = 3 then
    (if kindI l s.a = 0 then (if kindI l s.b = 0 then zRw else (look l s.b).getD zRw)
     else if kindI l s.b = 0 then (look l s.a).getD zRw else ⟨4, 0, ⟨#[]⟩, atI l.length s.a, atI l.length s.b⟩)
  else zRw

def rootI (c : Int) (s : ByteArray) : Info := ⟨bytes s ++ colon ++ bytes (errWord c), [c], [s], s, true, 1⟩
def errnoI (c : Int) : Info := ⟨bytes (errWord c), [c], [], ⟨#[]⟩, false, 1⟩
def wrapI (s : ByteArray) (i1 : Info) : Info := ⟨bytes s ++ colon ++ i1.text, i1.codes, s :: i1.path, s, true, i1.size + 1⟩
def pairI (i1 i2 : Info) : Info := ⟨i1.text ++ semi ++ i2.text, i1.codes ++ i2.codes, [], if i1.has then i1.place else i2.place, i1.has || i2.has, i1.size + i2.size + 1⟩

def lookI (is : List (Option Info)) (x : Int) : Option Info := (look is x).getD none

def infoOf (is : List (Option Info)) (s : Rw) : Option Info :=
  if s.kind = 0 then (if s.code = 0 then none else some (rootI s.code s.wh))
  else if s.kind = 1 then (if s.code = 0 then none else some (errnoI s.code))
  else if s.kind = 2 then (match lookI is s.a with | none => none | some i => some (wrapI s.wh i))
  else if s.kind = 3 then (match lookI is s.a, lookI is s.b with | none, y => y | x, none => x | some i, some j => some (pairI i j))
  else none

/- a node and what it tells fit together -/
def Fits (is : List (Option Info)) (n : Nat) (r : Rw) (o : Option Info) : Prop :=
  (r.kind = 0 ∧ o = none) ∨ (r.kind = 1 ∧ r.code ≠ 0 ∧ o = some (rootI r.code r.wh)) ∨ (r.kind = 2 ∧ r.code ≠ 0 ∧ o = some (errnoI r.code)) ∨
  (r.kind = 3 ∧ 0 ≤ r.a ∧ r.a < n ∧ ∃ i, lookI is r.a = some i ∧ o = some (wrapI r.wh i)) ∨
  (r.kind = 4 ∧ 0 ≤ r.a ∧ r.a < n ∧ 0 ≤ r.b ∧ r.b < n ∧ ∃ i j, lookI is r.a = some i ∧ lookI is r.b = some j ∧ o = some (pairI i j))

def Good (l : List Rw) (is : List (Option Info)) : Prop := l.length = is.length ∧ ∀ n r o, l[n]? = some r → is[n]? = some o → Fits is n r o

theorem look_append {α : Type} {l : List α} {m : List α} {x : Int} {v : α} (h : look l x = some v) : look (l ++ m) x = some v := by
  unfold look at *
  by_cases hx : x < 0
  · simp [hx] at h
  · simp [hx] at h ⊢
    rw [List.getElem?_append_left (List.getElem?_eq_some_iff.1 h).1]
    exact h

theorem lookI_append {is m : List (Option Info)} {x : Int} {v : Info} (h : lookI is x = some v) : lookI (is ++ m) x = some v := by
  unfold lookI at *
  cases hx : look is x with
  | none => simp [hx] at h
  | some o =>
    rw [look_append hx]
    simpa [hx] using h

theorem Fits.append {is m : List (Option Info)} {n : Nat} {r : Rw} {o : Option Info} (h : Fits is n r o) : Fits (is ++ m) n r o := by
  rcases h with h | h | h | ⟨h1, h2, h3, i, h4, h5⟩ | ⟨h1, h2, h3, h4, h5, i, j, h6, h7, h8⟩
  · exact .inl h
  · exact .inr (.inl h)
  · exact .inr (.inr (.inl h))
  · exact .inr (.inr (.inr (.inl ⟨h1, h2, h3, i, lookI_append h4, h5⟩)))
  · exact .inr (.inr (.inr (.inr ⟨h1, h2, h3, h4, h5, i, j, lookI_append h6, lookI_append h7, h8⟩)))

theorem Fits.mono {is : List (Option Info)} {n n' : Nat} {r : Rw} {o : Option Info} (h : Fits is n r o) (hn : n ≤ n') : Fits is n' r o := by
  rcases h with h | h | h | ⟨h1, h2, h3, i, h4, h5⟩ | ⟨h1, h2, h3, h4, h5, i, j, h6, h7, h8⟩
  · exact .inl h
  · exact .inr (.inl h)
  · exact .inr (.inr (.inl h))
  · exact .inr (.inr (.inr (.inl ⟨h1, h2, by omega, i, h4, h5⟩)))
  · exact .inr (.inr (.inr (.inr ⟨h1, h2, by omega, h4, by omega, i, j, h6, h7, h8⟩)))

theorem Fits.kind0 {is : List (Option Info)} {n : Nat} {r : Rw} {o : Option Info} (h : Fits is n r o) : r.kind = 0 ↔ o = none := by
  rcases h with ⟨h, rfl⟩ | ⟨h, _, rfl⟩ | ⟨h, _, rfl⟩ | ⟨h, _, _, i, _, rfl⟩ | ⟨h, _, _, _, _, i, j, _, _, rfl⟩ <;> simp [h]

theorem Good.kindI0 {l : List Rw} {is : List (Option Info)} (h : Good l is) (x : Int) : kindI l x = 0 ↔ lookI is x = none := by
  unfold kindI lookI look
  by_cases hx : x < 0
  · simp [hx]
  · simp only [hx, if_false]
    by_cases hl : x.toNat < l.length
    · have hl' : x.toNat < is.length := by rw [← h.1]; exact hl
      have h1 : l[x.toNat]? = some l[x.toNat] := List.getElem?_eq_getElem hl
      have h2 : is[x.toNat]? = some is[x.toNat] := List.getElem?_eq_getElem hl'
      rw [h1, h2]
      simpa using (h.2 _ _ _ h1 h2).kind0
    · have hl' : ¬ x.toNat < is.length := by rw [← h.1]; exact hl
      rw [List.getElem?_eq_none (by omega), List.getElem?_eq_none (by omega)]
      simp

theorem Good.looks {l : List Rw} {is : List (Option Info)} (h : Good l is) {x : Int} {i : Info} (hx : lookI is x = some i) : 0 ≤ x ∧ x < l.length ∧ ∃ r, look l x = some r ∧ Fits is x.toNat r (some i) := by
  unfold lookI look at hx
  by_cases h0 : x < 0
  · simp [h0] at hx
  · simp only [h0, if_false] at hx
    by_cases hl : x.toNat < l.length
    · have hl' : x.toNat < is.length := by rw [← h.1]; exact hl
      have h1 : l[x.toNat]? = some l[x.toNat] := List.getElem?_eq_getElem hl
      have h2 : is[x.toNat]? = some is[x.toNat] := List.getElem?_eq_getElem hl'
      rw [h2] at hx
      simp at hx
      refine ⟨by omega, by omega, l[x.toNat], ?_, ?_⟩
      · unfold look
        simp only [h0, if_false]
        exact h1
      · have := h.2 _ _ _ h1 h2
        rwa [hx] at this
    · have hl' : ¬ x.toNat < is.length := by rw [← h.1]; exact hl
      rw [List.getElem?_eq_none (by omega)] at hx
      simp at hx

theorem Good.snoc {l : List Rw} {is : List (Option Info)} (h : Good l is) (s : Rw) : Good (l ++ [nodeOf l s]) (is ++ [infoOf is s]) := by
  have key : Fits is l.length (nodeOf l s) (infoOf is s) := by
    unfold nodeOf infoOf
    by_cases k0 : s.kind = 0
    · simp only [k0, if_true]
      by_cases c0 : s.code = 0
      · simp [c0, Fits, zRw]
      · simp [c0, Fits]
    · by_cases k1 : s.kind = 1
      · simp only [k1, if_true]
        by_cases c0 : s.code = 0
        · simp [c0, Fits, zRw]
        · simp [c0, Fits]
      · by_cases k2 : s.kind = 2
        · simp only [k2, if_true]
          cases hx : lookI is s.a with
          | none => simp [(h.kindI0 s.a).2 hx, Fits, zRw]
          | some i =>
            have hk : kindI l s.a ≠ 0 := fun e => by rw [(h.kindI0 s.a).1 e] at hx; cases hx
            obtain ⟨h1, h2, _⟩ := h.looks hx
            have ha : atI l.length s.a = s.a := by unfold atI; simp; omega
            simp [hk, Fits, ha, hx, h1, h2]
        · by_cases k3 : s.kind = 3
          · simp only [k3, if_true]
            cases hx : lookI is s.a with
            | none =>
              cases hy : lookI is s.b with
              | none => simp [(h.kindI0 s.a).2 hx, (h.kindI0 s.b).2 hy, Fits, zRw]
              | some j =>
                have hk : kindI l s.b ≠ 0 := fun e => by rw [(h.kindI0 s.b).1 e] at hy; cases hy
                obtain ⟨h1, h2, r, h3, h4⟩ := h.looks hy
                simp [(h.kindI0 s.a).2 hx, hk, h3]
                exact h4.mono (by omega)
            | some i =>
              have hk : kindI l s.a ≠ 0 := fun e => by rw [(h.kindI0 s.a).1 e] at hx; cases hx
              obtain ⟨h1, h2, r, h3, h4⟩ := h.looks hx
              cases hy : lookI is s.b with
              | none =>
                simp [hk, (h.kindI0 s.b).2 hy, h3]
                exact h4.mono (by omega)
              | some j =>
                have hk' : kindI l s.b ≠ 0 := fun e => by rw [(h.kindI0 s.b).1 e] at hy; cases hy
                obtain ⟨g1, g2, _⟩ := h.looks hy
                have ha : atI l.length s.a = s.a := by unfold atI; simp; omega
                have hb : atI l.length s.b = s.b := by unfold atI; simp; omega
                simp [hk, hk', Fits, ha, hb, hx, hy, h1, h2, g1, g2]
          · simp [k0, k1, k2, k3, Fits, zRw]
  refine ⟨by simp [h.1], fun n r o h1 h2 => ?_⟩
  by_cases hn : n < l.length
  · rw [List.getElem?_append_left hn] at h1
    rw [List.getElem?_append_left (by rw [← h.1]; exact hn)] at h2
    exact (h.2 n r o h1 h2).append
  · have hn' : n = l.length := by
      have := (List.getElem?_eq_some_iff.1 h1).1
      simp at this
      omega
    subst hn'
    simp at h1
    rw [h.1] at h2
    simp at h2
    subst h1
    subst h2
    exact key.append

end Go.Proofs.YtogninhgibbfnaaDoor
