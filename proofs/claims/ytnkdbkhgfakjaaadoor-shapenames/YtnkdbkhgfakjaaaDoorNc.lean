/- What is named is read as it was, and what is read is named so. Pure. -/
import Derived.Test.YtnkdbkhgfakjaaaDoorNb
namespace Go.Proofs.YtnkdbkhgfakjaaaDoor
open Go.RowKit

theorem bs_append (s t : ByteArray) : bs (s ++ t) = bs s ++ bs t := by simp [bs, ByteArray.data_append]

theorem pos_mid (c : Nat) (r : List Nat) : ∀ l : List Nat, c ∉ l → pos c (l ++ c :: r) = l.length
  | [], _ => by simp [pos]
  | x :: l, h => by
    have hx : ¬ x = c := fun e => h (by simp [e])
    rw [List.cons_append, pos, if_neg hx, pos_mid c r l (fun hm => h (by simp [hm]))]
    rfl
theorem pos_none (c : Nat) : ∀ l : List Nat, c ∉ l → pos c l = l.length
  | [], _ => rfl
  | x :: l, h => by
    have hx : ¬ x = c := fun e => h (by simp [e])
    rw [pos, if_neg hx, pos_none c l (fun hm => h (by simp [hm]))]
    rfl
theorem cA_mid {c : Nat} {l : List Nat} (h : c ∉ l) (r : List Nat) : cA c (l ++ c :: r) = l := by
  rw [cA, pos_mid c r l h, List.take_left]
theorem cB_mid {c : Nat} {l : List Nat} (h : c ∉ l) (r : List Nat) : cB c (l ++ c :: r) = r := by
  rw [cB, pos_mid c r l h, show l ++ c :: r = (l ++ [c]) ++ r by simp]
  rw [List.drop_left' (by simp)]
theorem cA_none {c : Nat} {l : List Nat} (h : c ∉ l) : cA c l = l := by rw [cA, pos_none c l h, List.take_length]
theorem cB_none {c : Nat} {l : List Nat} (h : c ∉ l) : cB c l = [] := by rw [cB, pos_none c l h, List.drop_of_length_le (by omega)]
theorem pos_at (c : Nat) : ∀ l : List Nat, pos c l < l.length → l[pos c l]? = some c
  | [], h => by simp [pos] at h
  | x :: l, h => by
    by_cases hx : x = c
    · simp [pos, hx]
    · rw [pos, if_neg hx] at h ⊢
      rw [List.getElem?_cons_succ]
      exact pos_at c l (by simpa using h)
theorem split_at {c : Nat} {l : List Nat} (h : pos c l < l.length) : l = cA c l ++ c :: cB c l := by
  have hp := pos_at c l h
  have e : l.drop (pos c l) = c :: l.drop (pos c l + 1) := by
    obtain ⟨h1, h2⟩ := List.getElem?_eq_some_iff.1 hp
    rw [List.drop_eq_getElem_cons h1, h2]
  rw [cA, cB, ← e, List.take_append_drop]
theorem cB_far {c : Nat} {l : List Nat} (h : ¬ pos c l < l.length) : cB c l = [] := by rw [cB, List.drop_of_length_le (by omega)]
theorem numOf_nil : numOf [] = 0 := rfl

theorem digs_no : ∀ n, n < 100 → 58 ∉ digs n ∧ 120 ∉ digs n := by decide +kernel
theorem numOf_digs : ∀ n, n < 100 → 1 ≤ n → numOf (digs n) = n := by decide +kernel
theorem digs_one : ∀ n, n < 100 → digs n ≠ [] := by decide +kernel

theorem digs_numOf {r : List Nat} (h0 : numOf r ≠ 0) (h1 : numOf r < 100) : digs (numOf r) = r := by
  unfold numOf at *
  split at h0
  · rename_i h
    rw [if_pos h] at h1 ⊢
    obtain ⟨hne, hl, h48, hd⟩ := h
    match r, hl with
    | [], _ => exact absurd rfl hne
    | [a], _ =>
      have ha := hd a (by simp)
      have e : v10 [a] = a - 48 := by simp [v10]
      rw [e, digs, if_pos (by omega)]
      congr 1; omega
    | [a, b], _ =>
      have ha := hd a (by simp)
      have hb := hd b (by simp)
      have h4 : a ≠ 48 := fun e => h48 (by simp [e])
      have e : v10 [a, b] = 10 * (a - 48) + (b - 48) := by simp [v10]
      rw [e, digs, if_neg (by omega)]
      have e1 : 48 + (10 * (a - 48) + (b - 48)) / 10 = a := by omega
      have e2 : 48 + (10 * (a - 48) + (b - 48)) % 10 = b := by omega
      rw [e1, e2]
    | [a, b, c], _ =>
      exfalso
      have ha := hd a (by simp)
      have h4 : a ≠ 48 := fun e => h48 (by simp [e])
      have e : v10 [a, b, c] = 10 * (10 * (a - 48) + (b - 48)) + (c - 48) := by simp [v10]
      omega
  · exact absurd rfl h0

theorem bs_one (c : UInt8) : bs ⟨#[c]⟩ = [c.toNat] := rfl
theorem bs_nameS (B : Nat) (h : B < 100) (c : UInt8) : bs (⟨#[c]⟩ ++ digB B) = c.toNat :: digs B := by rw [bs_append, bs_one, bs_digB B h]; rfl
theorem bs_nameM (B M Q N : Nat) (hB : B < 100) (hM : M < 100) (hQ : Q < 100) (hN : N < 100) :
    bs (⟨#[109]⟩ ++ digB B ++ ⟨#[58]⟩ ++ (digB M ++ ⟨#[120]⟩ ++ digB Q ++ ⟨#[120]⟩ ++ digB N)) = 109 :: (digs B ++ 58 :: (digs M ++ 120 :: (digs Q ++ 120 :: digs N))) := by
  simp only [bs_append, bs_one, bs_digB B hB, bs_digB M hM, bs_digB Q hQ, bs_digB N hN]
  simp

theorem class_s {r : List Nat} : classP (115 :: r) = plainP 1 r := by
  rw [classP, if_neg (by simp), if_pos (by simp)]; rfl
theorem class_d {r : List Nat} : classP (100 :: r) = plainP 4 r := by
  rw [classP, if_neg (by simp), if_neg (by simp), if_neg (by simp), if_pos (by simp)]; rfl
theorem class_m {r : List Nat} : classP (109 :: r) = matP r := by
  rw [classP, if_neg (by simp), if_neg (by simp), if_pos (by simp)]; rfl

theorem mat_of (B M Q N : Nat) (hB : B < 100) (hM : M < 100) (hQ : Q < 100) (hN : N < 100) (b1 : 1 ≤ B) (m1 : 1 ≤ M) (q1 : 1 ≤ Q) (n1 : 1 ≤ N) :
    matP (digs B ++ 58 :: (digs M ++ 120 :: (digs Q ++ 120 :: digs N))) = (⟨2, B, M, Q, N⟩, true) := by
  have e1 : cA 58 (digs B ++ 58 :: (digs M ++ 120 :: (digs Q ++ 120 :: digs N))) = digs B := cA_mid (digs_no B hB).1 _
  have e2 : cB 58 (digs B ++ 58 :: (digs M ++ 120 :: (digs Q ++ 120 :: digs N))) = digs M ++ 120 :: (digs Q ++ 120 :: digs N) := cB_mid (digs_no B hB).1 _
  have e3 : cA 120 (digs M ++ 120 :: (digs Q ++ 120 :: digs N)) = digs M := cA_mid (digs_no M hM).2 _
  have e4 : cB 120 (digs M ++ 120 :: (digs Q ++ 120 :: digs N)) = digs Q ++ 120 :: digs N := cB_mid (digs_no M hM).2 _
  have e5 : cA 120 (digs Q ++ 120 :: digs N) = digs Q := cA_mid (digs_no Q hQ).2 _
  have e6 : cB 120 (digs Q ++ 120 :: digs N) = digs N := cB_mid (digs_no Q hQ).2 _
  simp only [matP, mB, mM, mK, mN, e1, e2, e3, e4, e5, e6, numOf_digs B hB b1, numOf_digs M hM m1, numOf_digs Q hQ q1, numOf_digs N hN n1]
  rw [decide_eq_true (by omega)]

theorem back1 {k b m q n : Int} (h : May k b m q n) : parP (bs (nameB k b m q n)) = (⟨k, b, m, q, n⟩, 0) := by
  have hb := h.2.1
  obtain ⟨B, rfl⟩ : ∃ B : Nat, b = (B : Int) := ⟨b.toNat, by omega⟩
  have fin : classP (bs (nameB k (B : Int) m q n)) = (⟨k, B, m, q, n⟩, true) → parP (bs (nameB k (B : Int) m q n)) = (⟨k, B, m, q, n⟩, 0) := fun e => by
    rw [parP, e, if_pos rfl]
    exact if_pos h
  apply fin
  rw [nameB, if_pos h, Int.toNat_natCast]
  rcases may_ways h with ⟨hk, rfl, rfl, rfl⟩ | ⟨rfl, h1, rfl, rfl, rfl⟩ | ⟨rfl, h1, h2, h3⟩
  · rcases hk with rfl | rfl
    · rw [if_pos rfl, bs_nameS B (by omega), show UInt8.toNat 115 = 115 from rfl, class_s, plainP, numOf_digs B (by omega) (by omega)]
      congr 1
      simp; omega
    · rw [if_neg (by decide), if_neg (by decide), if_neg (by decide), bs_nameS B (by omega), show UInt8.toNat 100 = 100 from rfl, class_d, plainP, numOf_digs B (by omega) (by omega)]
      congr 1
      simp; omega
  · rw [if_neg (by decide), if_neg (by decide), if_pos rfl, bs_one]
    rw [h1]
    rfl
  · obtain ⟨M, rfl⟩ : ∃ M : Nat, m = (M : Int) := ⟨m.toNat, by omega⟩
    obtain ⟨Q, rfl⟩ : ∃ Q : Nat, q = (Q : Int) := ⟨q.toNat, by omega⟩
    obtain ⟨N, rfl⟩ : ∃ N : Nat, n = (N : Int) := ⟨n.toNat, by omega⟩
    rw [if_neg (by decide), if_pos rfl, Int.toNat_natCast, Int.toNat_natCast, Int.toNat_natCast, bs_nameM B M Q N (by omega) (by omega) (by omega) (by omega), class_m]
    exact mat_of B M Q N (by omega) (by omega) (by omega) (by omega) (by omega) (by omega) (by omega) (by omega)

theorem back2 {k b m q n : Int} (h : ¬ May k b m q n) : parP (bs (nameB k b m q n)) = (Cl.zero, 13) := by
  rw [nameB, if_neg h]
  decide

theorem back3 {s : ByteArray} {c : Cl} (h : parP (bs s) = (c, 0)) : nameB c.k c.b c.m c.q c.n = s := by
  unfold parP at h
  split at h
  · rename_i h1
    split at h
    · rename_i hm
      have hc : (classP (bs s)).1 = c := congrArg Prod.fst h
      rw [hc] at hm
      have hm' : May c.k c.b c.m c.q c.n := hm
      have hb := hm'.2.1
      apply bs_inj
      rw [nameB, if_pos hm']
      unfold classP at h1 hc
      by_cases e0 : bs s = [98]
      · rw [if_pos e0] at hc
        subst hc
        rw [if_neg (by decide), if_neg (by decide), if_pos rfl, e0]
        rfl
      rw [if_neg e0] at h1 hc
      have hcons : ∀ x, (bs s)[0]? = some x → bs s = x :: (bs s).drop 1 := fun x hx => by
        cases hbs : bs s with
        | nil => rw [hbs] at hx; simp at hx
        | cons y l => rw [hbs] at hx; simp at hx; simp [hx]
      by_cases e1 : (bs s)[0]? = some 115
      · rw [if_pos e1] at h1 hc
        subst hc
        simp only [plainP] at *
        have hn : numOf ((bs s).drop 1) ≠ 0 := by simpa using h1
        rw [if_pos trivial, Int.toNat_natCast, bs_nameS _ (by omega), digs_numOf hn (by omega)]
        exact (hcons 115 e1).symm
      rw [if_neg e1] at h1 hc
      by_cases e2 : (bs s)[0]? = some 109
      · rw [if_pos e2] at h1 hc
        subst hc
        simp only [matP] at *
        have hn := of_decide_eq_true h1
        have hs := hm'.2.2.2.1 rfl
        have n1 : mB ((bs s).drop 1) ≠ 0 := by omega
        have n2 : mM ((bs s).drop 1) ≠ 0 := by omega
        have n3 : mK ((bs s).drop 1) ≠ 0 := by omega
        have n4 : mN ((bs s).drop 1) ≠ 0 := by omega
        rw [if_neg (by decide), if_pos trivial, Int.toNat_natCast, Int.toNat_natCast, Int.toNat_natCast, Int.toNat_natCast, bs_nameM _ _ _ _ (by omega) (by omega) (by omega) (by omega)]
        have l1 := hcons 109 e2
        generalize (bs s).drop 1 = r at *
        have d1 : digs (mB r) = cA 58 r := digs_numOf n1 (by show mB r < 100; omega)
        have d2 : digs (mM r) = cA 120 (cB 58 r) := digs_numOf n2 (by show mM r < 100; omega)
        have d3 : digs (mK r) = cA 120 (cB 120 (cB 58 r)) := digs_numOf n3 (by show mK r < 100; omega)
        have d4 : digs (mN r) = cB 120 (cB 120 (cB 58 r)) := digs_numOf n4 (by show mN r < 100; omega)
        have p1 : pos 58 r < r.length := Classical.byContradiction fun hp => n2 (by rw [mM, cB_far hp]; rfl)
        have p2 : pos 120 (cB 58 r) < (cB 58 r).length := Classical.byContradiction fun hp => n3 (by rw [mK, cB_far hp]; rfl)
        have p3 : pos 120 (cB 120 (cB 58 r)) < (cB 120 (cB 58 r)).length := Classical.byContradiction fun hp => n4 (by rw [mN, cB_far hp]; rfl)
        rw [d1, d2, d3, d4, ← split_at p3, ← split_at p2, ← split_at p1, l1]
      rw [if_neg e2] at h1 hc
      by_cases e3 : (bs s)[0]? = some 100
      · rw [if_pos e3] at h1 hc
        have e4 : c.k = 4 := by rw [← hc]; rfl
        have eb : c.b = ((numOf ((bs s).drop 1) : Nat) : Int) := by rw [← hc]; rfl
        have hn : numOf ((bs s).drop 1) ≠ 0 := by simpa [plainP] using h1
        rw [eb] at hb
        rw [e4, eb, if_neg (by decide), if_neg (by decide), if_neg (by decide), Int.toNat_natCast, bs_nameS _ (by omega), digs_numOf hn (by omega)]
        exact (hcons 100 e3).symm
      rw [if_neg e3] at h1
      cases h1
    · rename_i hm
      exact absurd (congrArg Prod.snd h) (chk_not hm)
  · cases h

end Go.Proofs.YtnkdbkhgfakjaaaDoor
