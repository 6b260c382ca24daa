/- Both ways to read a word come to the same: pure. -/
import Derived.Test.YtnkdbkhgfakjaaaDoorNf
namespace Go.Proofs.YtnkdbkhgfakjaaaDoor
open Go.RowKit

theorem step_ms {σ τ : St} {x : Nat} (h : stepD σ x = some τ) : ∃ t, τ.ms = σ.ms ++ t := by
  unfold stepD at h
  split at h
  · split at h
    · cases h
    · cases h; exact ⟨[], by simp⟩
  · split at h
    · cases h
    · cases h; exact ⟨[x], rfl⟩
theorem tot_ms : ∀ (l : List Nat) (σ : St) (mk ns : List Nat), tot l σ = some (mk, ns) → ∃ t, mk = σ.ms ++ t
  | [], σ, mk, ns, h => by
    rw [tot, fin] at h
    split at h
    · cases h
    · cases h; exact ⟨[], by simp⟩
  | x :: l, σ, mk, ns, h => by
    rw [tot] at h
    split at h
    · cases h
    · rename_i τ hτ
      obtain ⟨t, ht⟩ := step_ms hτ
      obtain ⟨u, hu⟩ := tot_ms l τ mk ns h
      exact ⟨t ++ u, by rw [hu, ht, List.append_assoc]⟩

def σ0 : St := ⟨[], [], 0, 0⟩
def clsR (k : Int) : Option (List Nat × List Nat) → Cl × Bool
  | none => (Cl.zero, false)
  | some (mk, ns) => if k = 2 then (if mk = [58, 120, 120] then (⟨2, (ns.getD 0 0 : Nat), (ns.getD 1 0 : Nat), (ns.getD 2 0 : Nat), (ns.getD 3 0 : Nat)⟩, true) else (Cl.zero, false)) else if mk = [] then (⟨k, (ns.getD 0 0 : Nat), 0, 0, 0⟩, true) else (Cl.zero, false)
theorem parV_false (c : Cl) : parV c false = (Cl.zero, 13) := rfl

theorem clsR_plain (k : Int) (hk : k ≠ 2) (r : List Nat) : parV (clsR k (tot r σ0)).1 (clsR k (tot r σ0)).2 = parV (plainP k r).1 (plainP k r).2 := by
  rcases parts r with h | ⟨p, c, r', rfl, hp, hc⟩
  · rw [show tot r σ0 = _ from tot_dig0 [] [] r h]
    by_cases hz : numOf r = 0
    · rw [if_pos hz, plainP, hz]; rfl
    · rw [if_neg hz]
      simp only [clsR, if_neg hk, plainP]
      rw [if_pos trivial, show ((((numOf r : Nat) : Int)) != 0) = true by simpa using hz]
      rfl
  · have hz : numOf (p ++ c :: r') = 0 := numOf_bad (c := c) (by simp) hc
    rw [plainP, hz]
    show _ = parV _ false
    rw [parV_false]
    rw [show tot (p ++ c :: r') σ0 = _ from tot_sign0 [] [] p r' c hp hc]
    split
    · rfl
    · cases ht : tot r' ⟨[] ++ [c], [] ++ [numOf p], 0, 0⟩ with
      | none => rfl
      | some q =>
        obtain ⟨mk, ns⟩ := q
        obtain ⟨t, e⟩ := tot_ms _ _ _ _ ht
        have hne : mk ≠ [] := by rw [e]; simp
        simp only [clsR, if_neg hk, if_neg hne]
        rfl

/- marks that are not those of a matrix -/
theorem clsR_off {T : Option (List Nat × List Nat)} (h : ∀ mk ns, T = some (mk, ns) → mk ≠ [58, 120, 120]) : parV (clsR 2 T).1 (clsR 2 T).2 = (Cl.zero, 13) := by
  cases T with
  | none => rfl
  | some q =>
    obtain ⟨mk, ns⟩ := q
    simp only [clsR, if_true, if_neg (h mk ns rfl)]
    rfl
theorem matP_off {r : List Nat} (h : mB r = 0 ∨ mM r = 0 ∨ mK r = 0 ∨ mN r = 0) : parV (matP r).1 (matP r).2 = (Cl.zero, 13) := by
  have e : (matP r).2 = false := decide_eq_false (fun hh => by omega)
  rw [e]; rfl
theorem sign_mem_cA {p r : List Nat} {c x : Nat} (hne : c ≠ x) (hp : x ∉ p) : c ∈ cA x (p ++ c :: r) := by
  have key : ∀ p : List Nat, x ∉ p → p.length < pos x (p ++ c :: r) := by
    intro p
    induction p with
    | nil => intro _; rw [List.nil_append, pos, if_neg hne]; simp
    | cons y p ih =>
      intro h
      have hy : ¬ y = x := fun e => h (by simp [e])
      rw [List.cons_append, pos, if_neg hy]
      have := ih (fun hm => h (by simp [hm]))
      simp; omega
  have hk := key p hp
  rw [cA]
  refine List.mem_of_getElem? (i := p.length) ?_
  rw [List.getElem?_take, if_pos hk]
  simp
theorem dig_not {p : List Nat} {x : Nat} (h : Dig p) (hx : ¬ isD x) : x ∉ p := fun hm => hx (h x hm)
theorem n58 : ¬ isD 58 := by decide
theorem n120 : ¬ isD 120 := by decide

theorem clsR_mat (r : List Nat) : parV (clsR 2 (tot r σ0)).1 (clsR 2 (tot r σ0)).2 = parV (matP r).1 (matP r).2 := by
  rcases parts r with h | ⟨p, c, r1, rfl, hp, hc⟩
  · rw [matP_off (Or.inr (Or.inl (by rw [mM, cB_none (dig_not h n58)]; rfl))), show tot r σ0 = _ from tot_dig0 [] [] r h]
    refine clsR_off (fun mk ns e => ?_)
    split at e <;> cases e
    simp
  rw [show tot (p ++ c :: r1) σ0 = _ from tot_sign0 [] [] p r1 c hp hc]
  by_cases h58 : ¬ c = 58
  · rw [matP_off (Or.inl (numOf_bad (sign_mem_cA h58 (dig_not hp n58)) hc))]
    refine clsR_off (fun mk ns e => ?_)
    split at e
    · cases e
    · obtain ⟨t, ht⟩ := tot_ms _ _ _ _ e
      rw [ht]
      intro h; simp at h; exact h58 h.1
  have h58' := Classical.not_not.1 h58
  clear h58
  subst h58'
  have eB : mB (p ++ 58 :: r1) = numOf p := by rw [mB, cA_mid (dig_not hp n58)]
  have e1 : cB 58 (p ++ 58 :: r1) = r1 := cB_mid (dig_not hp n58) _
  by_cases hz : numOf p = 0
  · rw [if_pos hz, matP_off (Or.inl (by rw [eB, hz]))]; rfl
  rw [if_neg hz]
  rcases parts r1 with h | ⟨p2, c2, r2, rfl, hp2, hc2⟩
  · rw [matP_off (Or.inr (Or.inr (Or.inl (by rw [mK, e1, cB_none (dig_not h n120)]; rfl)))), tot_dig0 _ _ r1 h]
    refine clsR_off (fun mk ns e => ?_)
    split at e <;> cases e
    simp
  rw [tot_sign0 _ _ p2 r2 c2 hp2 hc2]
  by_cases h120 : ¬ c2 = 120
  · rw [matP_off (Or.inr (Or.inl (by rw [mM, e1]; exact numOf_bad (sign_mem_cA h120 (dig_not hp2 n120)) hc2)))]
    refine clsR_off (fun mk ns e => ?_)
    split at e
    · cases e
    · obtain ⟨t, ht⟩ := tot_ms _ _ _ _ e
      rw [ht]
      intro h; simp at h; exact h120 h.1
  have h120' := Classical.not_not.1 h120
  clear h120
  subst h120'
  have eM : mM (p ++ 58 :: (p2 ++ 120 :: r2)) = numOf p2 := by rw [mM, e1, cA_mid (dig_not hp2 n120)]
  have e2 : cB 120 (cB 58 (p ++ 58 :: (p2 ++ 120 :: r2))) = r2 := by rw [e1, cB_mid (dig_not hp2 n120)]
  by_cases hz2 : numOf p2 = 0
  · rw [if_pos hz2, matP_off (Or.inr (Or.inl (by rw [eM, hz2])))]; rfl
  rw [if_neg hz2]
  rcases parts r2 with h | ⟨p3, c3, r3, rfl, hp3, hc3⟩
  · rw [matP_off (Or.inr (Or.inr (Or.inr (by rw [mN, e2, cB_none (dig_not h n120)]; rfl)))), tot_dig0 _ _ r2 h]
    refine clsR_off (fun mk ns e => ?_)
    split at e <;> cases e
    simp
  rw [tot_sign0 _ _ p3 r3 c3 hp3 hc3]
  by_cases h3 : ¬ c3 = 120
  · rw [matP_off (Or.inr (Or.inr (Or.inl (by rw [mK, e2]; exact numOf_bad (sign_mem_cA h3 (dig_not hp3 n120)) hc3))))]
    refine clsR_off (fun mk ns e => ?_)
    split at e
    · cases e
    · obtain ⟨t, ht⟩ := tot_ms _ _ _ _ e
      rw [ht]
      intro h; simp at h; exact h3 h.1
  have h3' := Classical.not_not.1 h3
  clear h3
  subst h3'
  have eK : mK (p ++ 58 :: (p2 ++ 120 :: (p3 ++ 120 :: r3))) = numOf p3 := by rw [mK, e2, cA_mid (dig_not hp3 n120)]
  have eN : mN (p ++ 58 :: (p2 ++ 120 :: (p3 ++ 120 :: r3))) = numOf r3 := by rw [mN, e2, cB_mid (dig_not hp3 n120)]
  by_cases hz3 : numOf p3 = 0
  · rw [if_pos hz3, matP_off (Or.inr (Or.inr (Or.inl (by rw [eK, hz3]))))]; rfl
  rw [if_neg hz3]
  rcases parts r3 with h | ⟨p4, c4, r4, rfl, hp4, hc4⟩
  · rw [tot_dig0 _ _ r3 h]
    by_cases hz4 : numOf r3 = 0
    · rw [if_pos hz4, matP_off (Or.inr (Or.inr (Or.inr (by rw [eN, hz4]))))]; rfl
    · rw [if_neg hz4]
      simp only [matP, eB, eM, eK, eN, clsR]
      rw [decide_eq_true (by omega)]
      rfl
  · rw [matP_off (Or.inr (Or.inr (Or.inr (by rw [eN]; exact numOf_bad (c := c4) (by simp) hc4)))), tot_sign0 _ _ p4 r4 c4 hp4 hc4]
    refine clsR_off (fun mk ns e => ?_)
    split at e
    · cases e
    · obtain ⟨t, ht⟩ := tot_ms _ _ _ _ e
      rw [ht]
      simp

end Go.Proofs.YtnkdbkhgfakjaaaDoor
