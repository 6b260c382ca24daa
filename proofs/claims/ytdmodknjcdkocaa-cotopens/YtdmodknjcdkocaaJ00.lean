/- Pure: words of 32 bits, turned to the left; four words turned, and turned back; grids of sixteen words. -/
namespace Go.Proofs.Ytdmodknjcdkocaa.Pg

def at0 (l : List Nat) (i : Nat) : Nat := l[i]?.getD 0

theorem at0_get {l : List Nat} {i x : Nat} (h : l[i]? = some x) : at0 l i = x := by simp [at0, h]
theorem get_at0 {l : List Nat} {i : Nat} (h : i < l.length) : l[i]? = some (at0 l i) := by
  simp [at0, List.getElem?_eq_getElem h]
theorem at0_none {l : List Nat} {i : Nat} (h : l.length ≤ i) : at0 l i = 0 := by
  simp [at0, List.getElem?_eq_none h]
theorem at0_ext {l m : List Nat} (h : l.length = m.length) (h2 : ∀ i, i < l.length → at0 l i = at0 m i) : l = m := by
  apply List.ext_getElem?
  intro i
  by_cases hi : i < l.length
  · rw [get_at0 hi, get_at0 (by omega), h2 i hi]
  · rw [List.getElem?_eq_none (by omega), List.getElem?_eq_none (by omega)]
theorem at0_append_left {l m : List Nat} {i : Nat} (h : i < l.length) : at0 (l ++ m) i = at0 l i := by
  simp [at0, List.getElem?_append_left h]
theorem at0_append_right {l m : List Nat} {i : Nat} (h : l.length ≤ i) : at0 (l ++ m) i = at0 m (i - l.length) := by
  simp [at0, List.getElem?_append_right h]
theorem at0_map_range {f : Nat → Nat} {n i : Nat} (h : i < n) : at0 ((List.range n).map f) i = f i := by
  simp [at0, h]
theorem at0_take {l : List Nat} {n i : Nat} (h : i < n) : at0 (l.take n) i = at0 l i := by
  simp [at0, h]
theorem at0_drop {l : List Nat} {n i : Nat} : at0 (l.drop n) i = at0 l (n + i) := by
  simp [at0, List.getElem?_drop]
theorem at0_replicate {n i : Nat} : at0 (List.replicate n 0) i = 0 := by
  simp only [at0, List.getElem?_replicate]
  split <;> rfl

/- all are below m -/
def Lt (m : Nat) (l : List Nat) : Prop := ∀ x ∈ l, x < m
theorem Lt.at {m : Nat} {l : List Nat} (h : Lt m l) (hm : 0 < m) (i : Nat) : at0 l i < m := by
  by_cases hi : i < l.length
  · exact h _ (by rw [at0, List.getElem?_eq_getElem hi]; exact List.getElem_mem hi)
  · rw [at0_none (by omega)]; exact hm
theorem Lt.app {m : Nat} {l k : List Nat} (h : Lt m l) (h2 : Lt m k) : Lt m (l ++ k) := by
  intro x hx
  rcases List.mem_append.1 hx with hx | hx
  · exact h x hx
  · exact h2 x hx
theorem Lt.take {m : Nat} {l : List Nat} (h : Lt m l) (n : Nat) : Lt m (l.take n) := fun x hx => h x (List.mem_of_mem_take hx)
theorem Lt.drop {m : Nat} {l : List Nat} (h : Lt m l) (n : Nat) : Lt m (l.drop n) := fun x hx => h x (List.mem_of_mem_drop hx)
theorem lt_replicate {m : Nat} (h : 0 < m) (n : Nat) : Lt m (List.replicate n 0) := by
  intro x hx
  rw [List.mem_replicate] at hx
  omega
theorem lt_one {m x : Nat} (h : x < m) : Lt m [x] := by
  intro y hy
  simp at hy
  omega
theorem lt_nil {m : Nat} : Lt m [] := by intro x hx; simp at hx
theorem Lt.set {m : Nat} {l : List Nat} (h : Lt m l) {x : Nat} (hx : x < m) (i : Nat) : Lt m (l.set i x) := by
  intro y hy
  rcases List.mem_or_eq_of_mem_set hy with hy | rfl
  · exact h y hy
  · exact hx

theorem xor_lt {x y : Nat} (hx : x < 4294967296) (hy : y < 4294967296) : x ^^^ y < 4294967296 := Nat.xor_lt_two_pow (n := 32) hx hy

/- a word turned to the left -/
def rotl (n x : Nat) : Nat := (x * 2 ^ n) % 4294967296 ||| x / 2 ^ (32 - n)

theorem rotl_lt {n x : Nat} (hx : x < 4294967296) : rotl n x < 4294967296 := by
  refine Nat.or_lt_two_pow (n := 32) (Nat.mod_lt _ (by omega)) ?_
  exact Nat.lt_of_le_of_lt (Nat.div_le_self _ _) hx

theorem split32 {n : Nat} (hn : n ≤ 32) : 4294967296 = 2 ^ (32 - n) * 2 ^ n := by
  rw [← Nat.pow_add, show 32 - n + n = 32 by omega]

theorem rotl_sum {n x : Nat} (hn : n ≤ 32) (hx : x < 4294967296) : rotl n x = 2 ^ n * (x % 2 ^ (32 - n)) + x / 2 ^ (32 - n) := by
  have h1 : x * 2 ^ n % 4294967296 = 2 ^ n * (x % 2 ^ (32 - n)) := by
    rw [split32 hn, Nat.mul_mod_mul_right, Nat.mul_comm]
  have h2 : x / 2 ^ (32 - n) < 2 ^ n := by
    refine Nat.div_lt_of_lt_mul ?_
    rw [← split32 hn]
    exact hx
  rw [rotl, h1, Nat.two_pow_add_eq_or_of_lt h2]

theorem rotl_back {n x : Nat} (hn : n ≤ 32) (hx : x < 4294967296) : rotl (32 - n) (rotl n x) = x := by
  rw [rotl_sum (by omega) (rotl_lt hx), rotl_sum hn hx, show 32 - (32 - n) = n by omega]
  have h2 : x / 2 ^ (32 - n) < 2 ^ n := by
    refine Nat.div_lt_of_lt_mul ?_
    rw [← split32 hn]
    exact hx
  have hp : 0 < 2 ^ n := Nat.two_pow_pos n
  rw [Nat.mul_add_mod, Nat.mod_eq_of_lt h2, Nat.mul_add_div hp, Nat.div_eq_of_lt h2, Nat.add_zero]
  exact Nat.div_add_mod _ _

/- four words turned, step by step -/
def tn (i : Nat) : Nat := at0 [16, 12, 8, 7] i
def px (i : Nat) : Nat := if i % 2 = 1 then 2 else 0
def py (i : Nat) : Nat := if i % 2 = 1 then 3 else 1
def pz (i : Nat) : Nat := if i % 2 = 1 then 1 else 3
def sq (i : Nat) (l : List Nat) : List Nat :=
  (l.set (px i) ((at0 l (px i) + at0 l (py i)) % 4294967296)).set (pz i) (rotl (tn i) (at0 l (pz i) ^^^ ((at0 l (px i) + at0 l (py i)) % 4294967296)))
def qs (l : List Nat) : Nat → List Nat
  | 0 => l
  | k + 1 => sq k (qs l k)
def qP (a b c d : Nat) : List Nat := qs [a, b, c, d] 4

/- and back -/
def sb (i : Nat) (l : List Nat) : List Nat :=
  (l.set (pz i) (rotl (32 - tn i) (at0 l (pz i)) ^^^ at0 l (px i))).set (px i) ((at0 l (px i) + (4294967296 - at0 l (py i))) % 4294967296)
def bs (l : List Nat) : Nat → List Nat
  | 0 => l
  | k + 1 => sb (3 - k) (bs l k)

theorem sq_length (i : Nat) (l : List Nat) : (sq i l).length = l.length := by simp [sq]
theorem sb_length (i : Nat) (l : List Nat) : (sb i l).length = l.length := by simp [sb]
theorem qs_length (l : List Nat) : ∀ k, (qs l k).length = l.length
  | 0 => rfl
  | k + 1 => by rw [qs, sq_length, qs_length l k]
theorem bs_length (l : List Nat) : ∀ k, (bs l k).length = l.length
  | 0 => rfl
  | k + 1 => by rw [bs, sb_length, bs_length l k]
theorem sq_lt {i : Nat} {l : List Nat} (h : Lt 4294967296 l) : Lt 4294967296 (sq i l) :=
  (h.set (Nat.mod_lt _ (by omega)) _).set (rotl_lt (xor_lt (h.at (by omega) _) (Nat.mod_lt _ (by omega)))) _
theorem qs_lt {l : List Nat} (h : Lt 4294967296 l) : ∀ k, Lt 4294967296 (qs l k)
  | 0 => h
  | k + 1 => sq_lt (qs_lt h k)
theorem sb_lt {i : Nat} {l : List Nat} (h : Lt 4294967296 l) : Lt 4294967296 (sb i l) :=
  (h.set (xor_lt (rotl_lt (h.at (by omega) _)) (h.at (by omega) _)) _).set (Nat.mod_lt _ (by omega)) _
theorem bs_lt {l : List Nat} (h : Lt 4294967296 l) : ∀ k, Lt 4294967296 (bs l k)
  | 0 => h
  | k + 1 => sb_lt (bs_lt h k)

theorem add_back {a b : Nat} (ha : a < 4294967296) (hb : b < 4294967296) : ((a + b) % 4294967296 + (4294967296 - b)) % 4294967296 = a := by omega
theorem xor_back (a b : Nat) : (a ^^^ b) ^^^ b = a := by rw [Nat.xor_assoc, Nat.xor_self, Nat.xor_zero]

theorem list4 (l : List Nat) (h : l.length = 4) : ∃ a b c d, l = [a, b, c, d] := by
  match l, h with
  | [a, b, c, d], _ => exact ⟨a, b, c, d, rfl⟩

theorem tn_le {i : Nat} (h : i < 4) : tn i ≤ 32 := by
  match i, h with
  | 0, _ => decide
  | 1, _ => decide
  | 2, _ => decide
  | 3, _ => decide

theorem sb_sq {i : Nat} (hi : i < 4) {l : List Nat} (hl : l.length = 4) (h : Lt 4294967296 l) : sb i (sq i l) = l := by
  obtain ⟨a, b, c, d, rfl⟩ := list4 l hl
  have ha : a < 4294967296 := h a (by simp)
  have hb : b < 4294967296 := h b (by simp)
  have hc : c < 4294967296 := h c (by simp)
  have hd : d < 4294967296 := h d (by simp)
  have hn := tn_le hi
  unfold sb sq
  by_cases h1 : i % 2 = 1
  · simp only [px, py, pz, h1, if_pos, at0, List.set_cons_succ, List.set_cons_zero, List.getElem?_cons_succ, List.getElem?_cons_zero, Option.getD_some]
    rw [rotl_back hn (xor_lt hb (Nat.mod_lt _ (by omega))), xor_back, add_back hc hd]
  · simp only [px, py, pz, h1, if_neg, at0, List.set_cons_succ, List.set_cons_zero, List.getElem?_cons_succ, List.getElem?_cons_zero, Option.getD_some, not_false_iff]
    rw [rotl_back hn (xor_lt hd (Nat.mod_lt _ (by omega))), xor_back, add_back ha hb]

theorem bs_qs {l : List Nat} (hl : l.length = 4) (h : Lt 4294967296 l) : bs (qs l 4) 4 = l := by
  show sb 0 (sb 1 (sb 2 (sb 3 (sq 3 (sq 2 (sq 1 (sq 0 l))))))) = l
  have l1 : (sq 0 l).length = 4 := by rw [sq_length, hl]
  have l2 : (sq 1 (sq 0 l)).length = 4 := by rw [sq_length, l1]
  have l3 : (sq 2 (sq 1 (sq 0 l))).length = 4 := by rw [sq_length, l2]
  rw [sb_sq (by omega) l3 (sq_lt (sq_lt (sq_lt h))), sb_sq (by omega) l2 (sq_lt (sq_lt h)), sb_sq (by omega) l1 (sq_lt h), sb_sq (by omega) hl h]

/- four words of a grid turned -/
def turnP (l : List Nat) (a b c d : Nat) : List Nat :=
  (((l.set a (at0 (qP (at0 l a) (at0 l b) (at0 l c) (at0 l d)) 0)).set b (at0 (qP (at0 l a) (at0 l b) (at0 l c) (at0 l d)) 1)).set c (at0 (qP (at0 l a) (at0 l b) (at0 l c) (at0 l d)) 2)).set d (at0 (qP (at0 l a) (at0 l b) (at0 l c) (at0 l d)) 3)
/- the i-th turn of a round: s = 0: of the columns, s = 1: of the slants -/
def turnI (s i : Nat) (l : List Nat) : List Nat := turnP l i (4 + (i + s) % 4) (8 + (i + 2 * s) % 4) (12 + (i + 3 * s) % 4)
def turns (s : Nat) (l : List Nat) : Nat → List Nat
  | 0 => l
  | i + 1 => turnI s i (turns s l i)
def twice (l : List Nat) : List Nat := turns 1 (turns 0 l 4) 4
def rounds (l : List Nat) : Nat → List Nat
  | 0 => l
  | k + 1 => twice (rounds l k)
/- a round of the document -/
def halves (l : List Nat) : Nat → List Nat
  | 0 => l
  | r + 1 => turns (r % 2) (halves l r) 4

theorem turnP_length (l : List Nat) (a b c d : Nat) : (turnP l a b c d).length = l.length := by simp [turnP]
theorem turns_length (s : Nat) (l : List Nat) : ∀ i, (turns s l i).length = l.length
  | 0 => rfl
  | i + 1 => by rw [turns, turnI, turnP_length, turns_length s l i]
theorem rounds_length (l : List Nat) : ∀ k, (rounds l k).length = l.length
  | 0 => rfl
  | k + 1 => by rw [rounds, twice, turns_length, turns_length, rounds_length l k]
theorem halves_length (l : List Nat) : ∀ k, (halves l k).length = l.length
  | 0 => rfl
  | k + 1 => by rw [halves, turns_length, halves_length l k]
theorem lt4 {a b c d : Nat} (ha : a < 4294967296) (hb : b < 4294967296) (hc : c < 4294967296) (hd : d < 4294967296) : Lt 4294967296 [a, b, c, d] := by
  intro x hx
  simp at hx
  omega
theorem qP_lt {a b c d : Nat} (ha : a < 4294967296) (hb : b < 4294967296) (hc : c < 4294967296) (hd : d < 4294967296) : Lt 4294967296 (qP a b c d) := qs_lt (lt4 ha hb hc hd) 4
theorem qP_length (a b c d : Nat) : (qP a b c d).length = 4 := qs_length _ 4
theorem turnP_lt {l : List Nat} (h : Lt 4294967296 l) (a b c d : Nat) : Lt 4294967296 (turnP l a b c d) := by
  have q := qP_lt (h.at (by omega) a) (h.at (by omega) b) (h.at (by omega) c) (h.at (by omega) d)
  exact (((h.set (q.at (by omega) _) _).set (q.at (by omega) _) _).set (q.at (by omega) _) _).set (q.at (by omega) _) _
theorem turns_lt {s : Nat} {l : List Nat} (h : Lt 4294967296 l) : ∀ i, Lt 4294967296 (turns s l i)
  | 0 => h
  | i + 1 => turnP_lt (turns_lt h i) _ _ _ _
theorem rounds_lt {l : List Nat} (h : Lt 4294967296 l) : ∀ k, Lt 4294967296 (rounds l k)
  | 0 => h
  | k + 1 => by
    rw [rounds, twice]
    exact turns_lt (turns_lt (rounds_lt h k) 4) 4
theorem halves_lt {l : List Nat} (h : Lt 4294967296 l) : ∀ k, Lt 4294967296 (halves l k)
  | 0 => h
  | k + 1 => by
    rw [halves]
    exact turns_lt (halves_lt h k) 4
theorem halves_two (l : List Nat) (r : Nat) : halves l (r + 2) = turns ((r + 1) % 2) (turns (r % 2) (halves l r) 4) 4 := by rw [halves, halves]
theorem halves_rounds (l : List Nat) (k : Nat) : halves l (2 * k) = rounds l k := by
  induction k with
  | zero => rw [Nat.mul_zero, halves, rounds]
  | succ k ih =>
    rw [show 2 * (k + 1) = 2 * k + 2 by omega, halves_two, ih, show (2 * k + 1) % 2 = 1 by omega, show 2 * k % 2 = 0 by omega, rounds, twice]

end Go.Proofs.Ytdmodknjcdkocaa.Pg
