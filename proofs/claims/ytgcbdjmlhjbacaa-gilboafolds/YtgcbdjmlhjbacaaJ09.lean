/- Bits in numbers: lists of truths packed, so many a number; no program is named here. -/
import Derived.Laws.BitsAllLaws
namespace Go.Proofs.Ytgcbdjmlhjbacaa.T

/- digits of k bits -/
def pk (k : Nat) : List Nat → Nat
  | [] => 0
  | d :: ds => d + 2 ^ k * pk k ds

def nats (l : List Bool) : List Nat := l.map Bool.toNat
def pack (l : List Bool) : Nat := pk 1 (nats l)

theorem pack_nil : pack [] = 0 := rfl
theorem pack_cons (b : Bool) (l : List Bool) : pack (b :: l) = b.toNat + 2 * pack l := rfl

theorem pack_testBit : ∀ (l : List Bool) (j : Nat), (pack l).testBit j = l.getD j false
  | [], j => by simp [pack_nil]
  | b :: l, 0 => by
    rw [pack_cons, Nat.testBit_zero]
    cases b <;> simp <;> omega
  | b :: l, j + 1 => by
    rw [pack_cons, Nat.testBit_succ]
    have : (b.toNat + 2 * pack l) / 2 = pack l := by cases b <;> simp <;> omega
    rw [this, pack_testBit l j]
    simp

theorem pack_lt : ∀ l : List Bool, pack l < 2 ^ l.length
  | [] => by simp [pack_nil]
  | b :: l => by
    have := pack_lt l
    rw [pack_cons, List.length_cons, Nat.pow_succ]
    cases b <;> simp <;> omega

theorem pack_append : ∀ A B : List Bool, pack (A ++ B) = pack A + 2 ^ A.length * pack B
  | [], B => by simp [pack_nil]
  | a :: A, B => by
    rw [List.cons_append, pack_cons, pack_append A B, pack_cons, List.length_cons, Nat.pow_succ, Nat.mul_add, Nat.mul_comm (2 ^ A.length) 2, Nat.mul_assoc]
    omega

theorem pack_falses (A : List Bool) (n : Nat) : pack (A ++ List.replicate n false) = pack A := by
  apply Nat.eq_of_testBit_eq
  intro j
  rw [pack_testBit, pack_testBit]
  simp only [List.getD_eq_getElem?_getD, List.getElem?_append, List.getElem?_replicate]
  by_cases h : j < A.length
  · simp [h]
  · simp only [h, if_false]
    rw [List.getElem?_eq_none (by omega)]
    split <;> rfl

/- so many a number -/
def need (n s : Nat) : Nat := (n + s - 1) / s
def chunk (s : Nat) (l : List Bool) (k : Nat) : Nat := pack ((l.drop (s * k)).take s)
def chunks (s : Nat) (l : List Bool) : List Nat := (List.range (need l.length s)).map (chunk s l)

theorem chunk_testBit (s : Nat) (l : List Bool) (k j : Nat) : (chunk s l k).testBit j = (decide (j < s) && l.getD (s * k + j) false) := by
  rw [chunk, pack_testBit]
  simp only [List.getD_eq_getElem?_getD, List.getElem?_take, List.getElem?_drop]
  by_cases h : j < s <;> simp [h]

theorem chunk_lt (s : Nat) (l : List Bool) (k : Nat) : chunk s l k < 2 ^ s := by
  refine Nat.lt_of_lt_of_le (pack_lt _) (Nat.pow_le_pow_right (by omega) ?_)
  simp
  omega

theorem chunk64_lt (l : List Bool) (k : Nat) : chunk 64 l k < 18446744073709551616 := chunk_lt 64 l k
theorem chunk8_lt (l : List Bool) (k : Nat) : chunk 8 l k < 256 := chunk_lt 8 l k

theorem chunks_length (s : Nat) (l : List Bool) : (chunks s l).length = need l.length s := by simp [chunks]

theorem chunks_get {s : Nat} {l : List Bool} {k : Nat} (h : k < need l.length s) : (chunks s l)[k]? = some (chunk s l k) := by
  simp [chunks, h]

theorem chunks_get' {s : Nat} {l : List Bool} {k x : Nat} (h : (chunks s l)[k]? = some x) : k < need l.length s ∧ x = chunk s l k := by
  by_cases hk : k < need l.length s
  · rw [chunks_get hk] at h
    exact ⟨hk, (Option.some.inj h).symm⟩
  · rw [List.getElem?_eq_none (by rw [chunks_length]; omega)] at h
    cases h

theorem need64 (n : Nat) : need n 64 = (n + 63) / 64 := rfl
theorem need8 (n : Nat) : need n 8 = (n + 7) / 8 := rfl

theorem chunks_ext {s : Nat} {l : List Bool} {ws : List Nat} (hlen : ws.length = need l.length s)
    (h : ∀ k x, ws[k]? = some x → x < 2 ^ s ∧ ∀ j, j < s → x.testBit j = l.getD (s * k + j) false) : ws = chunks s l := by
  apply List.ext_getElem?
  intro k
  by_cases hk : k < need l.length s
  · rw [chunks_get hk]
    obtain ⟨x, hx⟩ : ∃ x, ws[k]? = some x := ⟨_, List.getElem?_eq_getElem (by omega)⟩
    rw [hx]
    obtain ⟨h1, h2⟩ := h k x hx
    congr 1
    apply Nat.eq_of_testBit_eq
    intro j
    rw [chunk_testBit]
    by_cases hj : j < s
    · simp [hj, h2 j hj]
    · simp only [hj, decide_false, Bool.false_and]
      exact Nat.testBit_lt_two_pow (Nat.lt_of_lt_of_le h1 (Nat.pow_le_pow_right (by omega) (by omega)))
  · rw [List.getElem?_eq_none (by omega), List.getElem?_eq_none (by rw [chunks_length]; omega)]

theorem chunks_falses (s n : Nat) : chunks s (List.replicate n false) = List.replicate (need n s) 0 := by
  symm
  apply chunks_ext (by simp)
  intro k x hx
  simp [List.getElem?_replicate] at hx
  obtain ⟨_, rfl⟩ := hx
  refine ⟨Nat.two_pow_pos s, fun j _ => ?_⟩
  rw [Nat.zero_testBit]
  simp [List.getD_eq_getElem?_getD, List.getElem?_replicate]
  split <;> rfl

theorem getD_set (l : List Bool) (k : Nat) (b : Bool) (i : Nat) (hk : k < l.length) : (l.set k b).getD i false = if i = k then b else l.getD i false := by
  simp only [List.getD_eq_getElem?_getD, List.getElem?_set]
  by_cases h : k = i
  · subst h; simp [hk]
  · simp only [h, if_false]
    rw [if_neg (fun e => h e.symm)]

theorem split_at {s : Nat} (hs : 0 < s) (k q j : Nat) (hj : j < s) : (s * q + j = k) ↔ (q = k / s ∧ j = k % s) := by
  constructor
  · intro h
    subst h
    rw [Nat.mul_add_div hs, Nat.mul_add_mod, Nat.div_eq_of_lt hj, Nat.mod_eq_of_lt hj]
    simp
  · rintro ⟨rfl, rfl⟩
    exact Nat.div_add_mod k s

theorem chunks_set {s : Nat} (hs : 0 < s) (l : List Bool) (k : Nat) (b : Bool) (hk : k < l.length) (x : Nat) (hx : x < 2 ^ s)
    (ht : ∀ j, j < s → x.testBit j = if j = k % s then b else (chunk s l (k / s)).testBit j) : chunks s (l.set k b) = (chunks s l).set (k / s) x := by
  symm
  apply chunks_ext (by simp [chunks_length])
  intro q y hy
  rw [List.getElem?_set] at hy
  by_cases hq : k / s = q
  · subst hq
    rw [if_pos rfl] at hy
    split at hy
    · cases hy
      refine ⟨hx, fun j hj => ?_⟩
      rw [ht j hj, getD_set _ _ _ _ hk, chunk_testBit]
      have := split_at hs k (k / s) j hj
      simp only [true_and] at this
      by_cases hj' : j = k % s
      · rw [if_pos hj', if_pos (this.2 hj')]
      · rw [if_neg hj', if_neg (fun e => hj' (this.1 e))]
        simp [hj]
    · cases hy
  · rw [if_neg hq] at hy
    obtain ⟨hq', rfl⟩ := chunks_get' hy
    refine ⟨chunk_lt _ _ _, fun j hj => ?_⟩
    rw [chunk_testBit, getD_set _ _ _ _ hk]
    have := split_at hs k q j hj
    rw [if_neg (fun e => hq (this.1 e).1.symm)]
    simp [hj]

theorem chunks_set_true {s : Nat} (hs : 0 < s) (l : List Bool) (k : Nat) (hk : k < l.length) : chunks s (l.set k true) = (chunks s l).set (k / s) (chunk s l (k / s) ||| 2 ^ (k % s)) := by
  refine chunks_set hs l k true hk _ ?_ ?_
  · exact Nat.or_lt_two_pow (chunk_lt _ _ _) (Nat.pow_lt_pow_right (by omega) (Nat.mod_lt _ hs))
  · intro j hj
    rw [Nat.testBit_or, Nat.testBit_two_pow]
    by_cases h : j = k % s
    · simp [h]
    · rw [if_neg h]
      have : ¬ k % s = j := fun e => h e.symm
      simp [this]

theorem chunks_set_false {s : Nat} (hs : 0 < s) (l : List Bool) (k : Nat) (hk : k < l.length) : chunks s (l.set k false) = (chunks s l).set (k / s) (chunk s l (k / s) &&& (2 ^ s - 1 - 2 ^ (k % s))) := by
  refine chunks_set hs l k false hk _ ?_ ?_
  · exact Nat.lt_of_le_of_lt (Nat.and_le_left) (chunk_lt _ _ _)
  · intro j hj
    have hlt : 2 ^ (k % s) < 2 ^ s := Nat.pow_lt_pow_right (by omega) (Nat.mod_lt _ hs)
    rw [Nat.testBit_and, show 2 ^ s - 1 - 2 ^ (k % s) = 2 ^ s - (2 ^ (k % s) + 1) by omega, Nat.testBit_two_pow_sub_succ hlt, Nat.testBit_two_pow]
    by_cases h : j = k % s
    · simp [h]
    · rw [if_neg h]
      have : ¬ k % s = j := fun e => h e.symm
      simp [this, hj]

/- what is behind the last bit is cleared -/
def trimmed (n : Nat) (ws : List Nat) : List Nat := if 0 < n % 64 then ws.set (ws.length - 1) (ws.getD (ws.length - 1) 0 &&& (2 ^ (n % 64) - 1)) else ws

theorem trimmed_spec {n : Nat} {ws : List Nat} {l : List Bool} (hl : l.length = n) (hlen : ws.length = need n 64)
    (h : ∀ k x, ws[k]? = some x → x < 2 ^ 64 ∧ ∀ j, j < 64 → 64 * k + j < n → x.testBit j = l.getD (64 * k + j) false) : trimmed n ws = chunks 64 l := by
  rw [need64] at hlen
  unfold trimmed
  split
  · rename_i hu
    apply chunks_ext (by simp [hl, hlen, need64])
    intro q y hy
    rw [List.getElem?_set] at hy
    by_cases hq : ws.length - 1 = q
    · rw [if_pos hq] at hy
      split at hy
      · cases hy
        obtain ⟨x, hx⟩ : ∃ x, ws[q]? = some x := ⟨_, List.getElem?_eq_getElem (by omega)⟩
        obtain ⟨h1, h2⟩ := h q x hx
        have e : ws.getD (ws.length - 1) 0 = x := by rw [hq, List.getD_eq_getElem?_getD, hx]; rfl
        rw [e]
        refine ⟨Nat.lt_of_le_of_lt Nat.and_le_left h1, fun j hj => ?_⟩
        rw [Nat.testBit_and, Nat.testBit_two_pow_sub_one]
        by_cases hj' : j < n % 64
        · rw [h2 j hj (by omega)]
          simp [hj']
        · simp only [hj', decide_false, Bool.and_false]
          rw [List.getD_eq_getElem?_getD, List.getElem?_eq_none (by omega)]
          rfl
      · omega
    · rw [if_neg hq] at hy
      obtain ⟨h1, h2⟩ := h q y hy
      have : q < ws.length := (List.getElem?_eq_some_iff.1 hy).1
      exact ⟨h1, fun j hj => h2 j hj (by omega)⟩
  · rename_i hu
    apply chunks_ext (by simp [hl, hlen, need64])
    intro q y hy
    obtain ⟨h1, h2⟩ := h q y hy
    have : q < ws.length := (List.getElem?_eq_some_iff.1 hy).1
    exact ⟨h1, fun j hj => h2 j hj (by omega)⟩

/- ones counted, as the library counts them -/
def masks (k : Nat) : Nat → Nat
  | 0 => 0
  | n + 1 => (2 ^ k - 1) + 2 ^ (k + k) * masks k n

def pairs : List Nat → List Nat
  | a :: b :: t => (a + b) :: pairs t
  | l => l

theorem and_split (m a b x y : Nat) (ha : a < 2 ^ m) (hb : b < 2 ^ m) : (a + 2 ^ m * x) &&& (b + 2 ^ m * y) = (a &&& b) + 2 ^ m * (x &&& y) := by
  have hab : a &&& b < 2 ^ m := Nat.lt_of_le_of_lt Nat.and_le_left ha
  rw [Nat.add_comm a, Nat.add_comm b, Nat.add_comm (a &&& b)]
  apply Nat.eq_of_testBit_eq
  intro j
  rw [Nat.testBit_and, Nat.testBit_two_pow_mul_add _ ha, Nat.testBit_two_pow_mul_add _ hb, Nat.testBit_two_pow_mul_add _ hab]
  split <;> simp

theorem two_digits {k a b : Nat} (ha : a < 2 ^ k) (hb : b < 2 ^ k) : a + 2 ^ k * b < 2 ^ (k + k) := by
  rw [Nat.pow_add]
  have : 2 ^ k * b ≤ 2 ^ k * (2 ^ k - 1) := Nat.mul_le_mul_left _ (by omega)
  have e : 2 ^ k * (2 ^ k - 1) = 2 ^ k * 2 ^ k - 2 ^ k := by rw [Nat.mul_sub, Nat.mul_one]
  have : 2 ^ k ≤ 2 ^ k * 2 ^ k := Nat.le_mul_of_pos_right _ (Nat.two_pow_pos k)
  omega

theorem low_digit {k a b : Nat} (ha : a < 2 ^ k) : (a + 2 ^ k * b) &&& (2 ^ k - 1) = a := by
  rw [Nat.and_two_pow_sub_one_eq_mod, Nat.add_mul_mod_self_left, Nat.mod_eq_of_lt ha]

theorem mask_lt (k : Nat) : 2 ^ k - 1 < 2 ^ (k + k) := by
  have := Nat.two_pow_pos k
  rw [Nat.pow_add]
  have : 2 ^ k ≤ 2 ^ k * 2 ^ k := Nat.le_mul_of_pos_right _ (Nat.two_pow_pos k)
  omega

theorem pk_pairs (k : Nat) : ∀ (n : Nat) (ds : List Nat), ds.length = 2 * n → (∀ d ∈ ds, d < 2 ^ k) →
    (pk k ds / 2 ^ k &&& masks k n) + (pk k ds &&& masks k n) = pk (k + k) (pairs ds)
  | 0, [], _, _ => by simp [pk, masks, pairs]
  | 0, _ :: _, h, _ => by simp at h
  | n + 1, [], h, _ => by simp at h
  | n + 1, [_], h, _ => by simp at h; omega
  | n + 1, a :: b :: t, h, hd => by
    have ha : a < 2 ^ k := hd a (by simp)
    have hb : b < 2 ^ k := hd b (by simp)
    have IH := pk_pairs k n t (by simp at h; omega) (fun d hd' => hd d (by simp [hd']))
    have hp := Nat.two_pow_pos k
    have e1 : pk k (a :: b :: t) = (a + 2 ^ k * b) + 2 ^ (k + k) * pk k t := by
      simp only [pk, Nat.pow_add, Nat.mul_add, Nat.mul_assoc]
      omega
    have e2 : pk k (a :: b :: t) / 2 ^ k = b + 2 ^ k * pk k t := by
      show (a + 2 ^ k * (b + 2 ^ k * pk k t)) / 2 ^ k = _
      rw [Nat.add_mul_div_left _ _ hp, Nat.div_eq_of_lt ha, Nat.zero_add]
    have e3 : b + 2 ^ k * pk k t = (b + 2 ^ k * (pk k t % 2 ^ k)) + 2 ^ (k + k) * (pk k t / 2 ^ k) := by
      rw [Nat.pow_add, Nat.mul_assoc, Nat.add_assoc, ← Nat.mul_add, Nat.mod_add_div]
    rw [e2, e3, e1, masks, and_split _ _ _ _ _ (two_digits hb (Nat.mod_lt _ hp)) (mask_lt k), and_split _ _ _ _ _ (two_digits ha hb) (mask_lt k), low_digit hb, low_digit ha, pairs, pk, ← IH, Nat.mul_add]
    omega

def adds : List Nat → List Nat
  | a :: b :: t => (a + b) :: adds (b :: t)
  | l => l

theorem pairs_sum : ∀ (n : Nat) (ds : List Nat), ds.length = 2 * n → (pairs ds).sum = ds.sum ∧ (pairs ds).length = n
  | 0, [], _ => by simp [pairs]
  | 0, _ :: _, h => by simp at h
  | n + 1, [], h => by simp at h
  | n + 1, [_], h => by simp at h; omega
  | n + 1, a :: b :: t, h => by
    have IH := pairs_sum n t (by simp at h; omega)
    obtain ⟨i1, i2⟩ := IH
    refine ⟨?_, ?_⟩
    · rw [pairs, List.sum_cons, List.sum_cons, List.sum_cons, i1, Nat.add_assoc]
    · rw [pairs, List.length_cons, i2]

theorem pairs_le (c : Nat) : ∀ (n : Nat) (ds : List Nat), ds.length = 2 * n → (∀ d ∈ ds, d ≤ c) → ∀ d ∈ pairs ds, d ≤ 2 * c
  | 0, [], _, _ => by simp [pairs]
  | 0, _ :: _, h, _ => by simp at h
  | n + 1, [], h, _ => by simp at h
  | n + 1, [_], h, _ => by simp at h; omega
  | n + 1, a :: b :: t, h, hd => by
    have IH := pairs_le c n t (by simp at h; omega) (fun d hd' => hd d (by simp [hd']))
    have ha := hd a (by simp)
    have hb := hd b (by simp)
    intro d hdm
    simp only [pairs, List.mem_cons] at hdm
    rcases hdm with rfl | hdm
    · omega
    · exact IH d hdm

/- the third step: neighbours are added first, then every other digit is taken -/
theorem pk_third (k c : Nat) (hc : 2 * c < 2 ^ k) : ∀ (n : Nat) (ds : List Nat), ds.length = 2 * n → (∀ d ∈ ds, d ≤ c) →
    (pk k ds / 2 ^ k + pk k ds) &&& masks k n = pk (k + k) (pairs ds) ∧ (pk k ds / 2 ^ k + pk k ds) % 2 ^ k ≤ 2 * c
  | 0, [], _, _ => by simp [pk, masks, pairs]
  | 0, _ :: _, h, _ => by simp at h
  | n + 1, [], h, _ => by simp at h
  | n + 1, [_], h, _ => by simp at h; omega
  | n + 1, a :: b :: t, h, hd => by
    have ha : a ≤ c := hd a (by simp)
    have hb : b ≤ c := hd b (by simp)
    have hl : t.length = 2 * n := by simp at h; omega
    have ht : ∀ d ∈ t, d ≤ c := fun d hd' => hd d (by simp [hd'])
    obtain ⟨IH, _⟩ := pk_third k c hc n t hl ht
    have hp := Nat.two_pow_pos k
    have e2 : pk k (a :: b :: t) / 2 ^ k = b + 2 ^ k * pk k t := by
      show (a + 2 ^ k * (b + 2 ^ k * pk k t)) / 2 ^ k = _
      rw [Nat.add_mul_div_left _ _ hp, Nat.div_eq_of_lt (by omega), Nat.zero_add]
    have hf : pk k t % 2 ^ k ≤ c := by
      match t, ht with
      | [], _ => simp [pk]
      | d :: r, ht =>
        have hdc := ht d (by simp)
        rw [pk, Nat.add_mul_mod_self_left, Nat.mod_eq_of_lt (by omega)]
        exact hdc
    have e4 : pk k t = pk k t % 2 ^ k + 2 ^ k * (pk k t / 2 ^ k) := (Nat.mod_add_div _ _).symm
    have e5 : pk k (a :: b :: t) / 2 ^ k + pk k (a :: b :: t) = ((a + b) + 2 ^ k * (b + pk k t % 2 ^ k)) + 2 ^ (k + k) * (pk k t / 2 ^ k + pk k t) := by
      rw [e2]
      show b + 2 ^ k * pk k t + (a + 2 ^ k * (b + 2 ^ k * pk k t)) = _
      have : 2 ^ k * pk k t = 2 ^ k * (pk k t % 2 ^ k) + 2 ^ (k + k) * (pk k t / 2 ^ k) := by
        conv => lhs; rw [e4]
        rw [Nat.mul_add, Nat.pow_add, Nat.mul_assoc]
      rw [Nat.mul_add, Nat.mul_add, Nat.mul_add, ← Nat.mul_assoc, ← Nat.pow_add]
      omega
    rw [e5]
    refine ⟨?_, ?_⟩
    · rw [masks, and_split _ _ _ _ _ (two_digits (by omega) (by omega)) (mask_lt k), low_digit (by omega), IH, pairs, pk]
    · rw [Nat.pow_add, Nat.mul_assoc, Nat.add_assoc, ← Nat.mul_add, Nat.add_mul_mod_self_left, Nat.mod_eq_of_lt (by omega)]
      omega

def ones1 (x : Nat) : Nat := (x / 2 &&& 6148914691236517205) + (x &&& 6148914691236517205)
def ones2 (x : Nat) : Nat := (x / 4 &&& 3689348814741910323) + (x &&& 3689348814741910323)
def ones3 (x : Nat) : Nat := (x / 16 + x) &&& 1085102592571150095

theorem masks1 : masks 1 32 = 6148914691236517205 := by decide +kernel
theorem masks2 : masks 2 16 = 3689348814741910323 := by decide +kernel
theorem masks4 : masks 4 8 = 1085102592571150095 := by decide +kernel

theorem nats_sum : ∀ l : List Bool, (nats l).sum = l.count true
  | [] => rfl
  | b :: l => by
    have := nats_sum l
    show b.toNat + (nats l).sum = _
    rw [this]
    cases b <;> simp <;> omega

theorem ones_spec (l : List Bool) (h : l.length = 64) : ∃ es : List Nat, ones1 (pack l) = pk 2 (pairs (nats l)) ∧ ones2 (ones1 (pack l)) = pk 4 (pairs (pairs (nats l))) ∧
    ones3 (ones2 (ones1 (pack l))) = pk 8 es ∧ es.length = 8 ∧ es.sum = l.count true ∧ ∀ d ∈ es, d ≤ 8 := by
  have h0 : (nats l).length = 2 * 32 := by simp [nats, h]
  have b0 : ∀ d ∈ nats l, d ≤ 1 := by
    intro d hd
    simp [nats] at hd
    obtain ⟨b, hb | hb⟩ := hd
    all_goals (first | omega | (cases b <;> simp_all))
  have s0 := pairs_sum 32 (nats l) h0
  have b1 := pairs_le 1 32 (nats l) h0 b0
  have h1 : (pairs (nats l)).length = 2 * 16 := s0.2
  have s1 := pairs_sum 16 _ h1
  have b2 := pairs_le 2 16 _ h1 b1
  have h2 : (pairs (pairs (nats l))).length = 2 * 8 := s1.2
  have s2 := pairs_sum 8 _ h2
  have b3 := pairs_le 4 8 _ h2 b2
  have e1 : ones1 (pack l) = pk 2 (pairs (nats l)) := by
    have := pk_pairs 1 32 (nats l) h0 (fun d hd => by have := b0 d hd; omega)
    rw [masks1] at this
    exact this
  have e2 : ones2 (ones1 (pack l)) = pk 4 (pairs (pairs (nats l))) := by
    have := pk_pairs 2 16 _ h1 (fun d hd => by have := b1 d hd; omega)
    rw [masks2] at this
    rw [e1]
    exact this
  refine ⟨pairs (pairs (pairs (nats l))), e1, e2, ?_, s2.2, ?_, b3⟩
  · have := (pk_third 4 4 (by decide) 8 _ h2 b2).1
    rw [masks4] at this
    rw [e2]
    exact this
  · rw [s2.1, s1.1, s0.1, nats_sum]

theorem pk8_sum (es : List Nat) (h : es.length = 8) (hd : ∀ d ∈ es, d ≤ 8) :
    pk 8 es < 18446744073709551616 ∧
    (let a := pk 8 es + pk 8 es / 256; let b := a + a / 65536; let c := b + b / 4294967296; a < 18446744073709551616 ∧ b < 18446744073709551616 ∧ c < 9223372036854775808 ∧ c % 128 = es.sum) := by
  match es, h with
  | [d0, d1, d2, d3, d4, d5, d6, d7], _ =>
    have k0 := hd d0 (by simp)
    have k1 := hd d1 (by simp)
    have k2 := hd d2 (by simp)
    have k3 := hd d3 (by simp)
    have k4 := hd d4 (by simp)
    have k5 := hd d5 (by simp)
    have k6 := hd d6 (by simp)
    have k7 := hd d7 (by simp)
    obtain ⟨y6, h6⟩ : ∃ y, y = d6 + 256 * d7 := ⟨_, rfl⟩
    obtain ⟨y5, h5⟩ : ∃ y, y = d5 + 256 * y6 := ⟨_, rfl⟩
    obtain ⟨y4, h4⟩ : ∃ y, y = d4 + 256 * y5 := ⟨_, rfl⟩
    obtain ⟨y3, h3⟩ : ∃ y, y = d3 + 256 * y4 := ⟨_, rfl⟩
    obtain ⟨y2, h2⟩ : ∃ y, y = d2 + 256 * y3 := ⟨_, rfl⟩
    obtain ⟨y1, h1⟩ : ∃ y, y = d1 + 256 * y2 := ⟨_, rfl⟩
    obtain ⟨x, h0⟩ : ∃ y, y = d0 + 256 * y1 := ⟨_, rfl⟩
    have e0 : pk 8 [d0, d1, d2, d3, d4, d5, d6, d7] = x := by
      rw [h0, h1, h2, h3, h4, h5, h6]
      simp only [pk, Nat.reducePow, Nat.mul_zero, Nat.add_zero]
    have es : [d0, d1, d2, d3, d4, d5, d6, d7].sum = d0 + d1 + d2 + d3 + (d4 + d5 + d6 + d7) := by
      simp only [List.sum_cons, List.sum_nil]
      omega
    rw [e0, es]
    clear e0 es hd
    have b6 : y6 ≤ 2056 := by omega
    have b5 : y5 ≤ 526344 := by omega
    have b4 : y4 ≤ 134744072 := by omega
    have b3 : y3 ≤ 34494482440 := by omega
    have b2 : y2 ≤ 8830587504648 := by omega
    have b1 : y1 ≤ 2260630401189896 := by omega
    have b0 : x ≤ 578721382704613384 := by omega
    have q1 : x / 256 = y1 := by omega
    dsimp only
    rw [q1]
    obtain ⟨a, ha⟩ : ∃ a, a = x + y1 := ⟨_, rfl⟩
    rw [← ha]
    have a1 : a = (d0 + d1) + 256 * (y1 + y2) := by omega
    have a2 : y1 + y2 = (d1 + d2) + 256 * (y2 + y3) := by omega
    obtain ⟨z, hz⟩ : ∃ z, z = y2 + y3 := ⟨_, rfl⟩
    obtain ⟨u, hu⟩ : ∃ u, u = y1 + y2 := ⟨_, rfl⟩
    rw [← hz, ← hu] at a2
    rw [← hu] at a1
    have q2 : a / 65536 = z := by
      clear h0 h1 h2 h3 h4 h5 h6 hz hu ha
      omega
    rw [q2]
    obtain ⟨b, hb⟩ : ∃ b, b = a + z := ⟨_, rfl⟩
    rw [← hb]
    obtain ⟨t1, ht1⟩ : ∃ t, t = y1 + y2 + y3 + y4 := ⟨_, rfl⟩
    obtain ⟨t2, ht2⟩ : ∃ t, t = y2 + y3 + y4 + y5 := ⟨_, rfl⟩
    obtain ⟨t3, ht3⟩ : ∃ t, t = y3 + y4 + y5 + y6 := ⟨_, rfl⟩
    obtain ⟨t4, ht4⟩ : ∃ t, t = y4 + y5 + y6 + d7 := ⟨_, rfl⟩
    have c0 : b = (d0 + d1 + d2 + d3) + 256 * t1 := by
      rw [hb, a1, hz, hu, ht1]
      clear h0 h1 hz hu ha a1 a2 q1 q2 hb ht1 ht2 ht3 ht4
      omega
    have c1 : t1 = (d1 + d2 + d3 + d4) + 256 * t2 := by
      rw [ht1, ht2]
      clear hz hu ha a1 a2 q1 q2 hb ht1 ht2 ht3 ht4
      omega
    have c2 : t2 = (d2 + d3 + d4 + d5) + 256 * t3 := by
      rw [ht2, ht3]
      clear hz hu ha a1 a2 q1 q2 hb ht1 ht2 ht3 ht4
      omega
    have c3 : t3 = (d3 + d4 + d5 + d6) + 256 * t4 := by
      rw [ht3, ht4]
      clear hz hu ha a1 a2 q1 q2 hb ht1 ht2 ht3 ht4
      omega
    have q3 : b / 4294967296 = t4 := by
      clear h0 h1 h2 h3 h4 h5 h6 hz hu ha a1 a2 q1 q2 hb ht1 ht2 ht3 ht4
      omega
    rw [q3]
    have c4 : b + t4 = (d0 + d1 + d2 + d3 + (d4 + d5 + d6 + d7)) + 256 * (t1 + (y5 + y6 + d7)) := by
      rw [c0, ht4]
      clear h0 h1 h2 h3 hz hu ha a1 a2 q1 q2 q3 hb ht1 ht2 ht3 ht4 c0 c1 c2 c3
      omega
    have bz : z ≤ 8865081987088 := by omega
    have bt : t4 ≤ 135272480 := by omega
    have bb : a ≤ 580982013105803280 := by omega
    clear h0 h1 h2 h3 h4 h5 h6 hz hu a1 a2 q1 q2 q3 ht1 ht2 ht3 ht4 c0 c1 c2 c3
    refine ⟨by omega, by omega, by omega, by omega, by omega⟩

end Go.Proofs.Ytgcbdjmlhjbacaa.T
