/- The document's way to read a word: pure. -/
import Derived.Test.YtnkdbkhgfakjaaaDoorNe
namespace Go.Proofs.YtnkdbkhgfakjaaaDoor
open Go.RowKit

def isD (x : Nat) : Prop := 48 ≤ x ∧ x ≤ 57
instance (x : Nat) : Decidable (isD x) := by unfold isD; infer_instance
structure St where
  ms : List Nat
  ns : List Nat
  n : Nat
  len : Nat
def stepD (σ : St) (x : Nat) : Option St :=
  if isD x then if (σ.len = 0 ∧ x = 48) ∨ σ.len = 3 then none else some ⟨σ.ms, σ.ns, 10 * σ.n + (x - 48), σ.len + 1⟩
  else if σ.len = 0 then none else some ⟨σ.ms ++ [x], σ.ns ++ [σ.n], 0, 0⟩
def fin (σ : St) : Option (List Nat × List Nat) := if σ.len = 0 then none else some (σ.ms, σ.ns ++ [σ.n])
def tot : List Nat → St → Option (List Nat × List Nat)
  | [], σ => fin σ
  | x :: l, σ => match stepD σ x with
    | none => none
    | some τ => tot l τ

theorem v10_pos {p : List Nat} (hn : p ≠ []) (h0 : p[0]? ≠ some 48) (hp : Dig p) : v10 p ≠ 0 := by
  have key : ∀ (l : List Nat) (a : Nat), 0 < a → 0 < l.foldl (fun a x => 10 * a + (x - 48)) a := by
    intro l
    induction l with
    | nil => intro a h; exact h
    | cons x l ih => intro a h; exact ih (10 * a + (x - 48)) (by omega)
  match p, hn with
  | x :: l, _ =>
    have hx := hp x (by simp)
    have h4 : x ≠ 48 := fun e => h0 (by simp [e])
    have := key l (10 * 0 + (x - 48)) (by omega)
    show List.foldl (fun a x => 10 * a + (x - 48)) 0 (x :: l) ≠ 0
    rw [List.foldl_cons]
    omega

/- digits, behind some -/
theorem tot_dig (mk ns : List Nat) : ∀ (l p : List Nat), Dig l → Dig p → p.length ≤ 3 → (p = [] ∨ p[0]? ≠ some 48) →
    tot l ⟨mk, ns, v10 p, p.length⟩ = if numOf (p ++ l) = 0 then none else some (mk, ns ++ [numOf (p ++ l)])
  | [], p, _, hp, h3, h0 => by
    rw [List.append_nil, tot, fin]
    by_cases hn : p = []
    · subst hn; rfl
    · have e : numOf p = v10 p := if_pos ⟨hn, h3, h0.resolve_left hn, hp⟩
      have hl : p.length ≠ 0 := fun h => hn (List.length_eq_zero_iff.1 h)
      rw [if_neg hl, e, if_neg (v10_pos hn (h0.resolve_left hn) hp)]
  | x :: l, p, hd, hp, h3, h0 => by
    have hx : isD x := hd x (by simp)
    have hl : Dig l := fun y hy => hd y (by simp [hy])
    rw [tot, stepD, if_pos hx]
    by_cases hb : (p.length = 0 ∧ x = 48) ∨ p.length = 3
    · rw [if_pos hb]
      have hz : numOf (p ++ x :: l) = 0 := by
        unfold numOf
        rw [if_neg]
        rintro ⟨_, h4, h5, _⟩
        rcases hb with ⟨hp0, rfl⟩ | hp3
        · have : p = [] := List.length_eq_zero_iff.1 hp0
          subst this
          exact h5 rfl
        · simp at h4; omega
      rw [if_pos hz]
    · rw [if_neg hb]
      have hp' : Dig (p ++ [x]) := dig_snoc hp hx
      have ih := tot_dig mk ns l (p ++ [x]) hl hp' (by simp; omega) (Or.inr (by
        cases p with
        | nil => simp; intro e; exact hb (Or.inl ⟨rfl, e⟩)
        | cons y p => simpa using h0))
      rw [v10_snoc] at ih
      simp only [List.length_append, List.length_singleton, List.append_assoc, List.singleton_append] at ih
      exact ih

/- a sign ends a number -/
theorem tot_sign (mk ns : List Nat) (c : Nat) (r : List Nat) (hc : ¬ isD c) : ∀ (l p : List Nat), Dig l → Dig p → p.length ≤ 3 → (p = [] ∨ p[0]? ≠ some 48) →
    tot (l ++ c :: r) ⟨mk, ns, v10 p, p.length⟩ = if numOf (p ++ l) = 0 then none else tot r ⟨mk ++ [c], ns ++ [numOf (p ++ l)], 0, 0⟩
  | [], p, _, hp, h3, h0 => by
    rw [List.append_nil, List.nil_append, tot, stepD, if_neg hc]
    by_cases hn : p = []
    · subst hn; rfl
    · have e : numOf p = v10 p := if_pos ⟨hn, h3, h0.resolve_left hn, hp⟩
      have hl : p.length ≠ 0 := fun h => hn (List.length_eq_zero_iff.1 h)
      rw [if_neg hl, e, if_neg (v10_pos hn (h0.resolve_left hn) hp)]
  | x :: l, p, hd, hp, h3, h0 => by
    have hx : isD x := hd x (by simp)
    have hl : Dig l := fun y hy => hd y (by simp [hy])
    rw [List.cons_append, tot, stepD, if_pos hx]
    by_cases hb : (p.length = 0 ∧ x = 48) ∨ p.length = 3
    · rw [if_pos hb]
      have hz : numOf (p ++ x :: l) = 0 := by
        unfold numOf
        rw [if_neg]
        rintro ⟨_, h4, h5, _⟩
        rcases hb with ⟨hp0, rfl⟩ | hp3
        · have : p = [] := List.length_eq_zero_iff.1 hp0
          subst this
          exact h5 rfl
        · simp at h4; omega
      rw [if_pos hz]
    · rw [if_neg hb]
      have hp' : Dig (p ++ [x]) := dig_snoc hp hx
      have ih := tot_sign mk ns c r hc l (p ++ [x]) hl hp' (by simp; omega) (Or.inr (by
        cases p with
        | nil => simp; intro e; exact hb (Or.inl ⟨rfl, e⟩)
        | cons y p => simpa using h0))
      rw [v10_snoc] at ih
      simp only [List.length_append, List.length_singleton, List.append_assoc, List.singleton_append] at ih
      exact ih

theorem tot_dig0 (mk ns l : List Nat) (h : Dig l) : tot l ⟨mk, ns, 0, 0⟩ = if numOf l = 0 then none else some (mk, ns ++ [numOf l]) :=
  tot_dig mk ns l [] h (fun x hx => by cases hx) (by simp) (Or.inl rfl)
theorem tot_sign0 (mk ns l r : List Nat) (c : Nat) (h : Dig l) (hc : ¬ isD c) : tot (l ++ c :: r) ⟨mk, ns, 0, 0⟩ = if numOf l = 0 then none else tot r ⟨mk ++ [c], ns ++ [numOf l], 0, 0⟩ :=
  tot_sign mk ns c r hc l [] h (fun x hx => by cases hx) (by simp) (Or.inl rfl)
/- digits, then a sign, or digits alone -/
theorem parts : ∀ l : List Nat, Dig l ∨ ∃ p c r, l = p ++ c :: r ∧ Dig p ∧ ¬ isD c
  | [] => Or.inl (fun x hx => by cases hx)
  | x :: l => by
    by_cases hx : isD x
    · rcases parts l with h | ⟨p, c, r, rfl, hp, hc⟩
      · exact Or.inl (fun y hy => (List.mem_cons.1 hy).elim (fun e => e ▸ hx) (h y))
      · exact Or.inr ⟨x :: p, c, r, rfl, fun y hy => (List.mem_cons.1 hy).elim (fun e => e ▸ hx) (hp y), hc⟩
    · exact Or.inr ⟨[], x, l, rfl, (fun y hy => by cases hy), hx⟩
theorem numOf_bad {l : List Nat} {c : Nat} (h : c ∈ l) (hc : ¬ isD c) : numOf l = 0 := if_neg (fun hh => hc (hh.2.2.2 c h))

end Go.Proofs.YtnkdbkhgfakjaaaDoor
