/- Pure: words of 32 bits, turned and mixed; the rounds; the words of all rounds. -/
namespace Go.Proofs.YtjcfllidandeiaaDoor

def at0 (l : List Nat) (i : Nat) : Nat := l[i]?.getD 0

theorem at0_get {l : List Nat} {i x : Nat} (h : l[i]? = some x) : at0 l i = x := by simp [at0, h]
theorem get_at0 {l : List Nat} {i : Nat} (h : i < l.length) : l[i]? = some (at0 l i) := by
  simp [at0, List.getElem?_eq_getElem h]
theorem at0_none {l : List Nat} {i : Nat} (h : l.length ≤ i) : at0 l i = 0 := by
  simp [at0, List.getElem?_eq_none h]
theorem at0_ext {l m : List Nat} (h : l.length = m.length) (h2 : ∀ i, i < l.length → at0 l i = at0 m i) : l = m := by
  apply List.ext_getElem?
  intro i
  by_cases hi : i < l.length
  · rw [get_at0 hi, get_at0 (by omega), h2 i hi]
  · rw [List.getElem?_eq_none (by omega), List.getElem?_eq_none (by omega)]
theorem at0_append_left {l m : List Nat} {i : Nat} (h : i < l.length) : at0 (l ++ m) i = at0 l i := by
  simp [at0, List.getElem?_append_left h]
theorem at0_append_right {l m : List Nat} {i : Nat} (h : l.length ≤ i) : at0 (l ++ m) i = at0 m (i - l.length) := by
  simp [at0, List.getElem?_append_right h]
theorem at0_map_range {f : Nat → Nat} {n i : Nat} (h : i < n) : at0 ((List.range n).map f) i = f i := by
  simp [at0, h]
theorem at0_take {l : List Nat} {n i : Nat} (h : i < n) : at0 (l.take n) i = at0 l i := by
  simp [at0, h]
theorem at0_drop {l : List Nat} {n i : Nat} : at0 (l.drop n) i = at0 l (n + i) := by
  simp [at0, List.getElem?_drop]
theorem at0_replicate {n i : Nat} : at0 (List.replicate n 0) i = 0 := by
  simp only [at0, List.getElem?_replicate]
  split <;> rfl

/- all are below m -/
def Lt (m : Nat) (l : List Nat) : Prop := ∀ x ∈ l, x < m
theorem Lt.at {m : Nat} {l : List Nat} (h : Lt m l) (hm : 0 < m) (i : Nat) : at0 l i < m := by
  by_cases hi : i < l.length
  · exact h _ (by rw [at0, List.getElem?_eq_getElem hi]; exact List.getElem_mem hi)
  · rw [at0_none (by omega)]; exact hm
theorem Lt.app {m : Nat} {l k : List Nat} (h : Lt m l) (h2 : Lt m k) : Lt m (l ++ k) := by
  intro x hx
  rcases List.mem_append.1 hx with hx | hx
  · exact h x hx
  · exact h2 x hx
theorem Lt.take {m : Nat} {l : List Nat} (h : Lt m l) (n : Nat) : Lt m (l.take n) := fun x hx => h x (List.mem_of_mem_take hx)
theorem Lt.drop {m : Nat} {l : List Nat} (h : Lt m l) (n : Nat) : Lt m (l.drop n) := fun x hx => h x (List.mem_of_mem_drop hx)
theorem lt_replicate {m : Nat} (h : 0 < m) (n : Nat) : Lt m (List.replicate n 0) := by
  intro x hx
  rw [List.mem_replicate] at hx
  omega
theorem lt_one {m x : Nat} (h : x < m) : Lt m [x] := by
  intro y hy
  simp at hy
  omega
theorem lt_nil {m : Nat} : Lt m [] := by intro x hx; simp at hx
theorem Lt.set {m : Nat} {l : List Nat} (h : Lt m l) {x : Nat} (hx : x < m) (i : Nat) : Lt m (l.set i x) := by
  intro y hy
  rcases List.mem_or_eq_of_mem_set hy with hy | rfl
  · exact h y hy
  · exact hx

/- a word turned to the right -/
def rot (n x : Nat) : Nat := (x * 2 ^ (32 - n)) % 4294967296 ||| x / 2 ^ n

theorem rot_lt {n x : Nat} (hx : x < 4294967296) : rot n x < 4294967296 := by
  refine Nat.or_lt_two_pow (n := 32) (Nat.mod_lt _ (by omega)) ?_
  exact Nat.lt_of_le_of_lt (Nat.div_le_self _ _) hx

def bs0 (x : Nat) : Nat := rot 2 x ^^^ rot 13 x ^^^ rot 22 x
def bs1 (x : Nat) : Nat := rot 6 x ^^^ rot 11 x ^^^ rot 25 x
def gs0 (x : Nat) : Nat := rot 7 x ^^^ rot 18 x ^^^ x / 8
def gs1 (x : Nat) : Nat := rot 17 x ^^^ rot 19 x ^^^ x / 1024
def cho (e f g : Nat) : Nat := (e &&& f) ^^^ ((4294967295 - e) &&& g)
def maj (a b c : Nat) : Nat := (a &&& b) ^^^ (a &&& c) ^^^ (b &&& c)

theorem xor_lt {x y : Nat} (hx : x < 4294967296) (hy : y < 4294967296) : x ^^^ y < 4294967296 := Nat.xor_lt_two_pow (n := 32) hx hy
theorem and_lt {x y : Nat} (hy : y < 4294967296) : x &&& y < 4294967296 := Nat.lt_of_le_of_lt Nat.and_le_right hy
theorem or_lt {x y : Nat} (hx : x < 4294967296) (hy : y < 4294967296) : x ||| y < 4294967296 := Nat.or_lt_two_pow (n := 32) hx hy
theorem bs0_lt {x : Nat} (hx : x < 4294967296) : bs0 x < 4294967296 := xor_lt (xor_lt (rot_lt hx) (rot_lt hx)) (rot_lt hx)
theorem bs1_lt {x : Nat} (hx : x < 4294967296) : bs1 x < 4294967296 := xor_lt (xor_lt (rot_lt hx) (rot_lt hx)) (rot_lt hx)
theorem div_lt' {x n : Nat} (hx : x < 4294967296) : x / n < 4294967296 := Nat.lt_of_le_of_lt (Nat.div_le_self _ _) hx
theorem gs0_lt {x : Nat} (hx : x < 4294967296) : gs0 x < 4294967296 := xor_lt (xor_lt (rot_lt hx) (rot_lt hx)) (div_lt' hx)
theorem gs1_lt {x : Nat} (hx : x < 4294967296) : gs1 x < 4294967296 := xor_lt (xor_lt (rot_lt hx) (rot_lt hx)) (div_lt' hx)

theorem maj_or (a b c : Nat) : maj a b c = (a &&& b) ||| (a &&& c) ||| (b &&& c) := by
  apply Nat.eq_of_testBit_eq
  intro i
  simp only [maj, Nat.testBit_xor, Nat.testBit_or, Nat.testBit_and]
  cases a.testBit i <;> cases b.testBit i <;> cases c.testBit i <;> rfl

theorem rot_comm (n x : Nat) : rot n x = x / 2 ^ n ||| (x * 2 ^ (32 - n)) % 4294967296 := by rw [rot, Nat.or_comm]

/- the eight words within the rounds -/
structure S8 where
  a : Nat
  b : Nat
  c : Nat
  d : Nat
  e : Nat
  f : Nat
  g : Nat
  h : Nat

structure S8.Ok (s : S8) : Prop where
  a : s.a < 4294967296
  b : s.b < 4294967296
  c : s.c < 4294967296
  d : s.d < 4294967296
  e : s.e < 4294967296
  f : s.f < 4294967296
  g : s.g < 4294967296
  h : s.h < 4294967296

def S8.t (s : S8) (k w : Nat) : Nat := (s.h + bs1 s.e + cho s.e s.f s.g + k + w) % 4294967296
def S8.u (s : S8) : Nat := (bs0 s.a + maj s.a s.b s.c) % 4294967296
def S8.step (s : S8) (k w : Nat) : S8 := ⟨(s.t k w + s.u) % 4294967296, s.a, s.b, s.c, (s.d + s.t k w) % 4294967296, s.e, s.f, s.g⟩

theorem S8.step_ok {s : S8} (h : s.Ok) (k w : Nat) : (s.step k w).Ok :=
  ⟨Nat.mod_lt _ (by omega), h.a, h.b, h.c, Nat.mod_lt _ (by omega), h.e, h.f, h.g⟩

def S8.of (l : List Nat) : S8 := ⟨at0 l 0, at0 l 1, at0 l 2, at0 l 3, at0 l 4, at0 l 5, at0 l 6, at0 l 7⟩
def S8.list (s : S8) : List Nat := [s.a, s.b, s.c, s.d, s.e, s.f, s.g, s.h]
theorem S8.of_ok {l : List Nat} (h : Lt 4294967296 l) : (S8.of l).Ok :=
  ⟨h.at (by omega) _, h.at (by omega) _, h.at (by omega) _, h.at (by omega) _, h.at (by omega) _, h.at (by omega) _, h.at (by omega) _, h.at (by omega) _⟩
theorem S8.list_lt {s : S8} (h : s.Ok) : Lt 4294967296 s.list := by
  have := h.a; have := h.b; have := h.c; have := h.d; have := h.e; have := h.f; have := h.g; have := h.h
  intro x hx
  simp [S8.list] at hx
  omega

/- the state behind i rounds -/
def rnd (ks ws : List Nat) (s : S8) : Nat → S8
  | 0 => s
  | i + 1 => (rnd ks ws s i).step (at0 ks i) (at0 ws i)
theorem rnd_ok {ks ws : List Nat} {s : S8} (h : s.Ok) : ∀ i, (rnd ks ws s i).Ok
  | 0 => h
  | i + 1 => S8.step_ok (rnd_ok h i) _ _

/- the words of all rounds, one by one -/
def nextW (l : List Nat) : Nat := (at0 l (l.length - 16) + gs0 (at0 l (l.length - 15)) + at0 l (l.length - 7) + gs1 (at0 l (l.length - 2))) % 4294967296
def sched (b : List Nat) : Nat → List Nat
  | 0 => b
  | n + 1 => sched b n ++ [nextW (sched b n)]
theorem sched_length (b : List Nat) : ∀ n, (sched b n).length = b.length + n
  | 0 => rfl
  | n + 1 => by simp [sched, sched_length b n]; omega
theorem sched_lt {b : List Nat} (h : Lt 4294967296 b) : ∀ n, Lt 4294967296 (sched b n)
  | 0 => h
  | n + 1 => (sched_lt h n).app (lt_one (Nat.mod_lt _ (by omega)))

/- two lists added, word by word -/
def addW (l m : List Nat) : List Nat := (List.range 8).map (fun i => (at0 l i + at0 m i) % 4294967296)
theorem addW_length (l m : List Nat) : (addW l m).length = 8 := by simp [addW]
theorem addW_lt (l m : List Nat) : Lt 4294967296 (addW l m) := by
  intro x hx
  simp only [addW, List.mem_map] at hx
  obtain ⟨i, _, rfl⟩ := hx
  exact Nat.mod_lt _ (by omega)
theorem at0_addW {l m : List Nat} {i : Nat} (h : i < 8) : at0 (addW l m) i = (at0 l i + at0 m i) % 4294967296 := at0_map_range h

/- 64 bytes, or words, taken into eight words -/
def comp (ks h b : List Nat) : List Nat := addW h (rnd ks (sched b 48) (S8.of h) 64).list

end Go.Proofs.YtjcfllidandeiaaDoor
