/- What a joiner is asked to be; parts that come; rows on the way of StreamJoins. -/
import Derived.Test.YtceemkjmmfkmdaaJ06
import Derived.Test.YtceemkjmmfkmdaaJ08
namespace Go.Proofs.Ytceemkjmmfkmdaa.St
open Go.RowKit
set_option maxRecDepth 100000
attribute [local go_sem] not_any

/- what came, chunk by chunk -/
abbrev Sts := List (Option (List Nat))
def addC (l : List Chk) (e : Nat) (st : Sts) (i : Int) (m : Nat) : Int :=
  if i < 0 ∨ (l.length : Int) ≤ i then 6 else if (st.getD i.toNat none).isSome then 7 else if (m : Int) ≠ (e : Int) * (l.getD i.toNat ⟨0, 0, 0⟩).ct then 11 else 0
def addS (l : List Chk) (e : Nat) (st : Sts) (i : Int) (m : Nat) (xs : List Nat) : Sts := if addC l e st i m = 0 then st.set i.toNat (some xs) else st
def cntN : Sts → Nat
  | [] => 0
  | o :: st => (if o.isSome then 0 else 1) + cntN st
def joinL (st : Sts) : List Nat := st.flatMap fun o => o.getD []
theorem addC_range {l : List Chk} {e : Nat} {st : Sts} {i : Int} {m : Nat} (h : i < 0 ∨ (l.length : Int) ≤ i) : addC l e st i m = 6 := if_pos h
theorem addC_nat {l : List Chk} {e k : Nat} {st : Sts} {m : Nat} (h : k < l.length) : addC l e st (k : Int) m = if (st.getD k none).isSome then 7 else if (m : Int) ≠ (e : Int) * (l.getD k ⟨0, 0, 0⟩).ct then 11 else 0 := if_neg (by omega)
theorem addS_no {l : List Chk} {e : Nat} {st : Sts} {i : Int} {m : Nat} {xs : List Nat} (h : addC l e st i m ≠ 0) : addS l e st i m xs = st := if_neg h
theorem addS_yes {l : List Chk} {e : Nat} {st : Sts} {i : Int} {m : Nat} {xs : List Nat} (h : addC l e st i m = 0) : addS l e st i m xs = st.set i.toNat (some xs) := if_pos h
theorem cntN_none (n : Nat) : cntN (List.replicate n none) = n := by
  induction n with
  | zero => rfl
  | succ n ih => rw [List.replicate_succ, cntN, ih]; simp; omega
theorem cntN_le : ∀ st : Sts, cntN st ≤ st.length
  | [] => Nat.le_refl _
  | o :: st => by have := cntN_le st; rw [cntN, List.length_cons]; split <;> omega
theorem cntN_set : ∀ {st : Sts} {k : Nat} (xs : List Nat), st[k]? = some none → cntN (st.set k (some xs)) + 1 = cntN st
  | [], k, xs, h => by simp at h
  | o :: st, 0, xs, h => by
    obtain rfl : o = none := by simpa using h
    rw [List.set_cons_zero, cntN, cntN]
    simp
    omega
  | o :: st, k + 1, xs, h => by
    rw [List.set_cons_succ, cntN, cntN]
    have := cntN_set (st := st) (k := k) xs (by simpa using h)
    omega
theorem cntN_zero : ∀ {st : Sts}, cntN st = 0 → ∀ o ∈ st, o.isSome = true
  | [], _, o, h => by simp at h
  | p :: st, h0, o, h => by
    rw [cntN] at h0
    rcases List.mem_cons.1 h with rfl | h
    · cases hp : o.isSome with
      | true => rfl
      | false => rw [hp] at h0; simp at h0
    · exact cntN_zero (by omega) o h
theorem cntN_pos : ∀ {st : Sts} {k : Nat}, st[k]? = some none → 0 < cntN st
  | st, k, h => by have := cntN_set [] h; omega

theorem joinL_le : ∀ (st : Sts), (∀ (j : Nat) (xs : List Nat), st[j]? = some (some xs) → xs.length ≤ 3072) → (joinL st).length ≤ 3072 * st.length
  | [], _ => Nat.le_refl _
  | o :: st, h => by
    have h1 := joinL_le st fun j xs hj => h (j + 1) xs (by simpa using hj)
    have h2 : (o.getD []).length ≤ 3072 := by
      cases o with
      | none => exact Nat.zero_le _
      | some xs => exact h 0 xs rfl
    rw [joinL, List.flatMap_cons, List.length_append, ← joinL, List.length_cons]
    omega
theorem joinL_take {st : Sts} {k : Nat} {xs : List Nat} (h : st[k]? = some (some xs)) : joinL (st.take (k + 1)) = joinL (st.take k) ++ xs := by
  rw [joinL, List.take_add_one, h, List.flatMap_append, ← joinL]
  simp
theorem came_all {st : Sts} {k : Nat} (h : cntN st = 0) (hk : k < st.length) : ∃ xs, st[k]? = some (some xs) := by
  have h1 := List.getElem?_eq_getElem hk
  cases ho : st[k] with
  | none => have := cntN_zero h _ (List.getElem_mem hk); rw [ho] at this; cases this
  | some xs => exact ⟨xs, by rw [h1, ho]⟩
/- what a joiner is asked to be: in memory, with blocks of its own -/
structure JI where
  jn : World → Nat → (Nat → Prop) → List Chk → Nat → Sts → Prop
  len : ∀ {w g F l e st}, jn w g F l e st → st.length = l.length
  keep : ∀ {w w' g F l e st}, jn w g F l e st → (∀ b, F b → w'.heap[b]? = w.heap[b]?) → jn w' g F l e st
  lt : ∀ {w g F l e st b}, jn w g F l e st → F b → b < w.heap.size
  new0 : ∀ (n c : Nat) (a : Option Addr) (l : List Chk) (e : Nat) (w : World), Cl w n a l → n ≤ 20 → goodC l (e : Int) = 0 →
    Calls Try.prog 14 #[.slice a n c, .int .i64 (e : Int)] w fun r w' => ∃ g F, r = .returned (.tuple #[.pointer (some ⟨g, 0, none⟩), .int .i64 0]) ∧ jn w' g F l e (List.replicate n none) ∧ (∀ b, F b → w.heap.size ≤ b) ∧ Below w.heap.size w w'
  add : ∀ (w : World) (g : Nat) (F : Nat → Prop) (l : List Chk) (e : Nat) (st : Sts) (k : Nat) (m c : Nat) (a : Option Addr) (xs : List Nat), jn w g F l e st → Nl w m a xs → addC l e st (k : Int) m = 0 →
    Calls Try.prog 17 #[.pointer (some ⟨g, 0, none⟩), .int .i64 (k : Int), .slice a m c] w fun r w' => ∃ F' : Nat → Prop, r = .returned (.int .i64 0) ∧ jn w' g F' l e (st.set k (some xs)) ∧ Kp F w w' ∧ ∀ b, F' b → F b ∨ w.heap.size ≤ b
  all1 : ∀ (w : World) (g : Nat) (F : Nat → Prop) (l : List Chk) (e : Nat) (st : Sts), jn w g F l e st → cntN st = 0 →
    Calls Try.prog 19 #[.pointer (some ⟨g, 0, none⟩)] w fun r w' => ∃ a m c, r = .returned (.tuple #[.slice a m c, .bool true]) ∧ Nl w' m a (joinL st) ∧ Below w.heap.size w w'
theorem JI.below (I : JI) {w w' : World} {g B : Nat} {F : Nat → Prop} {l : List Chk} {e : Nat} {st : Sts} (h : I.jn w g F l e st) (hb : Below B w w') (hB : w.heap.size ≤ B) : I.jn w' g F l e st := I.keep h fun b hF => hb.block b (Nat.lt_of_lt_of_le (I.lt h hF) hB)

/- a part that comes -/
structure Prt where
  i : Int
  a : Option Addr
  m : Nat
  c : Nat
  xs : List Nat
structure Pp (w : World) (n : Nat) (a : Option Addr) (ps : List Prt) : Prop where
  len : ps.length = n
  at' : ∀ (j : Nat) (p : Prt), ps[j]? = some p → ∃ g o, a = some ⟨g, o, none⟩ ∧ w.cell? ⟨g, o + j * 2, none⟩ = some (.int .i64 p.i) ∧ w.cell? ⟨g, o + j * 2 + 1, none⟩ = some (.slice p.a p.m p.c) ∧ Nl w p.m p.a p.xs

/- a plan that a joiner may be of has chunks alone -/
theorem goodGo_ct : ∀ {l : List Chk} {N : Nat}, goodGo l N = 0 → ∀ c ∈ l, 1 ≤ c.ct ∧ c.ct ≤ 512
  | [], _, _, c, h => by simp at h
  | d :: l, N, h0, c, h => by
    rw [goodGo] at h0
    by_cases hb : badC d N
    · rw [if_pos hb] at h0; cases h0
    · rw [if_neg hb] at h0
      by_cases h4 : 4096 < N + d.ct.toNat
      · rw [if_pos h4] at h0; cases h0
      · rw [if_neg h4] at h0
        rcases List.mem_cons.1 h with rfl | h
        · unfold badC at hb
          omega
        · exact goodGo_ct h0 c h
theorem goodC_ct {l : List Chk} {e : Int} (h : goodC l e = 0) : (0 ≤ e ∧ e ≤ 6) ∧ ∀ c ∈ l, 1 ≤ c.ct ∧ c.ct ≤ 512 := by
  unfold goodC at h
  by_cases h1 : e < 0 ∨ 6 < e
  · rw [if_pos h1] at h; cases h
  · rw [if_neg h1] at h
    exact ⟨by omega, goodGo_ct h⟩
end Go.Proofs.Ytceemkjmmfkmdaa.St
