/- Pure: words of 32 bits, turned to the left; four words turned, and turned back; grids of sixteen words. Words turned by Go's RotateLeft32 and by the document's left; Quarter; the example 'awake'; rows of words and bytes in memory. -/
import Derived.Test.YtlkkninnfiaedaaDoorRows
import Derived.WalkKit
import Derived.WalkSpells
import Derived.WalkLawsBesides
import Derived.Below
import Derived.Deep.QuietTactic
import Derived.BigQuiet
import Derived.BigRegion
import Derived.Laws.Rows
import Derived.Laws.Tables
import Derived.Deep.WholeRow
namespace Go.Proofs.YtlkkninnfiaedaaDoor.Pg

def at0 (l : List Nat) (i : Nat) : Nat := l[i]?.getD 0

theorem at0_get {l : List Nat} {i x : Nat} (h : l[i]? = some x) : at0 l i = x := by simp [at0, h]
theorem get_at0 {l : List Nat} {i : Nat} (h : i < l.length) : l[i]? = some (at0 l i) := by
  simp [at0, List.getElem?_eq_getElem h]
theorem at0_none {l : List Nat} {i : Nat} (h : l.length ≤ i) : at0 l i = 0 := by
  simp [at0, List.getElem?_eq_none h]
theorem at0_ext {l m : List Nat} (h : l.length = m.length) (h2 : ∀ i, i < l.length → at0 l i = at0 m i) : l = m := by
  apply List.ext_getElem?
  intro i
  by_cases hi : i < l.length
  · rw [get_at0 hi, get_at0 (by omega), h2 i hi]
  · rw [List.getElem?_eq_none (by omega), List.getElem?_eq_none (by omega)]
theorem at0_append_left {l m : List Nat} {i : Nat} (h : i < l.length) : at0 (l ++ m) i = at0 l i := by
  simp [at0, List.getElem?_append_left h]
theorem at0_append_right {l m : List Nat} {i : Nat} (h : l.length ≤ i) : at0 (l ++ m) i = at0 m (i - l.length) := by
  simp [at0, List.getElem?_append_right h]
theorem at0_map_range {f : Nat → Nat} {n i : Nat} (h : i < n) : at0 ((List.range n).map f) i = f i := by
  simp [at0, h]
theorem at0_take {l : List Nat} {n i : Nat} (h : i < n) : at0 (l.take n) i = at0 l i := by
  simp [at0, h]
theorem at0_drop {l : List Nat} {n i : Nat} : at0 (l.drop n) i = at0 l (n + i) := by
  simp [at0, List.getElem?_drop]
theorem at0_replicate {n i : Nat} : at0 (List.replicate n 0) i = 0 := by
  simp only [at0, List.getElem?_replicate]
  split <;> rfl

/- all are below m -/
def Lt (m : Nat) (l : List Nat) : Prop := ∀ x ∈ l, x < m
theorem Lt.at {m : Nat} {l : List Nat} (h : Lt m l) (hm : 0 < m) (i : Nat) : at0 l i < m := by
  by_cases hi : i < l.length
  · exact h _ (by rw [at0, List.getElem?_eq_getElem hi]; exact List.getElem_mem hi)
  · rw [at0_none (by omega)]; exact hm
theorem Lt.app {m : Nat} {l k : List Nat} (h : Lt m l) (h2 : Lt m k) : Lt m (l ++ k) := by
  intro x hx
  rcases List.mem_append.1 hx with hx | hx
  · exact h x hx
  · exact h2 x hx
theorem Lt.take {m : Nat} {l : List Nat} (h : Lt m l) (n : Nat) : Lt m (l.take n) := fun x hx => h x (List.mem_of_mem_take hx)
theorem Lt.drop {m : Nat} {l : List Nat} (h : Lt m l) (n : Nat) : Lt m (l.drop n) := fun x hx => h x (List.mem_of_mem_drop hx)
theorem lt_replicate {m : Nat} (h : 0 < m) (n : Nat) : Lt m (List.replicate n 0) := by
  intro x hx
  rw [List.mem_replicate] at hx
  omega
theorem lt_one {m x : Nat} (h : x < m) : Lt m [x] := by
  intro y hy
  simp at hy
  omega
theorem lt_nil {m : Nat} : Lt m [] := by intro x hx; simp at hx
theorem Lt.set {m : Nat} {l : List Nat} (h : Lt m l) {x : Nat} (hx : x < m) (i : Nat) : Lt m (l.set i x) := by
  intro y hy
  rcases List.mem_or_eq_of_mem_set hy with hy | rfl
  · exact h y hy
  · exact hx

theorem xor_lt {x y : Nat} (hx : x < 4294967296) (hy : y < 4294967296) : x ^^^ y < 4294967296 := Nat.xor_lt_two_pow (n := 32) hx hy

/- a word turned to the left -/
def rotl (n x : Nat) : Nat := (x * 2 ^ n) % 4294967296 ||| x / 2 ^ (32 - n)

theorem rotl_lt {n x : Nat} (hx : x < 4294967296) : rotl n x < 4294967296 := by
  refine Nat.or_lt_two_pow (n := 32) (Nat.mod_lt _ (by omega)) ?_
  exact Nat.lt_of_le_of_lt (Nat.div_le_self _ _) hx

theorem split32 {n : Nat} (hn : n ≤ 32) : 4294967296 = 2 ^ (32 - n) * 2 ^ n := by
  rw [← Nat.pow_add, show 32 - n + n = 32 by omega]

theorem rotl_sum {n x : Nat} (hn : n ≤ 32) (hx : x < 4294967296) : rotl n x = 2 ^ n * (x % 2 ^ (32 - n)) + x / 2 ^ (32 - n) := by
  have h1 : x * 2 ^ n % 4294967296 = 2 ^ n * (x % 2 ^ (32 - n)) := by
    rw [split32 hn, Nat.mul_mod_mul_right, Nat.mul_comm]
  have h2 : x / 2 ^ (32 - n) < 2 ^ n := by
    refine Nat.div_lt_of_lt_mul ?_
    rw [← split32 hn]
    exact hx
  rw [rotl, h1, Nat.two_pow_add_eq_or_of_lt h2]

theorem rotl_back {n x : Nat} (hn : n ≤ 32) (hx : x < 4294967296) : rotl (32 - n) (rotl n x) = x := by
  rw [rotl_sum (by omega) (rotl_lt hx), rotl_sum hn hx, show 32 - (32 - n) = n by omega]
  have h2 : x / 2 ^ (32 - n) < 2 ^ n := by
    refine Nat.div_lt_of_lt_mul ?_
    rw [← split32 hn]
    exact hx
  have hp : 0 < 2 ^ n := Nat.two_pow_pos n
  rw [Nat.mul_add_mod, Nat.mod_eq_of_lt h2, Nat.mul_add_div hp, Nat.div_eq_of_lt h2, Nat.add_zero]
  exact Nat.div_add_mod _ _

/- four words turned, step by step -/
def tn (i : Nat) : Nat := at0 [16, 12, 8, 7] i
def px (i : Nat) : Nat := if i % 2 = 1 then 2 else 0
def py (i : Nat) : Nat := if i % 2 = 1 then 3 else 1
def pz (i : Nat) : Nat := if i % 2 = 1 then 1 else 3
def sq (i : Nat) (l : List Nat) : List Nat :=
  (l.set (px i) ((at0 l (px i) + at0 l (py i)) % 4294967296)).set (pz i) (rotl (tn i) (at0 l (pz i) ^^^ ((at0 l (px i) + at0 l (py i)) % 4294967296)))
def qs (l : List Nat) : Nat → List Nat
  | 0 => l
  | k + 1 => sq k (qs l k)
def qP (a b c d : Nat) : List Nat := qs [a, b, c, d] 4

/- and back -/
def sb (i : Nat) (l : List Nat) : List Nat :=
  (l.set (pz i) (rotl (32 - tn i) (at0 l (pz i)) ^^^ at0 l (px i))).set (px i) ((at0 l (px i) + (4294967296 - at0 l (py i))) % 4294967296)
def bs (l : List Nat) : Nat → List Nat
  | 0 => l
  | k + 1 => sb (3 - k) (bs l k)

theorem sq_length (i : Nat) (l : List Nat) : (sq i l).length = l.length := by simp [sq]
theorem sb_length (i : Nat) (l : List Nat) : (sb i l).length = l.length := by simp [sb]
theorem qs_length (l : List Nat) : ∀ k, (qs l k).length = l.length
  | 0 => rfl
  | k + 1 => by rw [qs, sq_length, qs_length l k]
theorem bs_length (l : List Nat) : ∀ k, (bs l k).length = l.length
  | 0 => rfl
  | k + 1 => by rw [bs, sb_length, bs_length l k]
theorem sq_lt {i : Nat} {l : List Nat} (h : Lt 4294967296 l) : Lt 4294967296 (sq i l) :=
  (h.set (Nat.mod_lt _ (by omega)) _).set (rotl_lt (xor_lt (h.at (by omega) _) (Nat.mod_lt _ (by omega)))) _
theorem qs_lt {l : List Nat} (h : Lt 4294967296 l) : ∀ k, Lt 4294967296 (qs l k)
  | 0 => h
  | k + 1 => sq_lt (qs_lt h k)
theorem sb_lt {i : Nat} {l : List Nat} (h : Lt 4294967296 l) : Lt 4294967296 (sb i l) :=
  (h.set (xor_lt (rotl_lt (h.at (by omega) _)) (h.at (by omega) _)) _).set (Nat.mod_lt _ (by omega)) _
theorem bs_lt {l : List Nat} (h : Lt 4294967296 l) : ∀ k, Lt 4294967296 (bs l k)
  | 0 => h
  | k + 1 => sb_lt (bs_lt h k)

theorem add_back {a b : Nat} (ha : a < 4294967296) (hb : b < 4294967296) : ((a + b) % 4294967296 + (4294967296 - b)) % 4294967296 = a := by omega
theorem xor_back (a b : Nat) : (a ^^^ b) ^^^ b = a := by rw [Nat.xor_assoc, Nat.xor_self, Nat.xor_zero]

theorem list4 (l : List Nat) (h : l.length = 4) : ∃ a b c d, l = [a, b, c, d] := by
  match l, h with
  | [a, b, c, d], _ => exact ⟨a, b, c, d, rfl⟩

theorem tn_le {i : Nat} (h : i < 4) : tn i ≤ 32 := by
  match i, h with
  | 0, _ => decide
  | 1, _ => decide
  | 2, _ => decide
  | 3, _ => decide

theorem sb_sq {i : Nat} (hi : i < 4) {l : List Nat} (hl : l.length = 4) (h : Lt 4294967296 l) : sb i (sq i l) = l := by
  obtain ⟨a, b, c, d, rfl⟩ := list4 l hl
  have ha : a < 4294967296 := h a (by simp)
  have hb : b < 4294967296 := h b (by simp)
  have hc : c < 4294967296 := h c (by simp)
  have hd : d < 4294967296 := h d (by simp)
  have hn := tn_le hi
  unfold sb sq
  by_cases h1 : i % 2 = 1
  · simp only [px, py, pz, h1, if_pos, at0, List.set_cons_succ, List.set_cons_zero, List.getElem?_cons_succ, List.getElem?_cons_zero, Option.getD_some]
    rw [rotl_back hn (xor_lt hb (Nat.mod_lt _ (by omega))), xor_back, add_back hc hd]
  · simp only [px, py, pz, h1, if_neg, at0, List.set_cons_succ, List.set_cons_zero, List.getElem?_cons_succ, List.getElem?_cons_zero, Option.getD_some, not_false_iff]
    rw [rotl_back hn (xor_lt hd (Nat.mod_lt _ (by omega))), xor_back, add_back ha hb]

theorem bs_qs {l : List Nat} (hl : l.length = 4) (h : Lt 4294967296 l) : bs (qs l 4) 4 = l := by
  show sb 0 (sb 1 (sb 2 (sb 3 (sq 3 (sq 2 (sq 1 (sq 0 l))))))) = l
  have l1 : (sq 0 l).length = 4 := by rw [sq_length, hl]
  have l2 : (sq 1 (sq 0 l)).length = 4 := by rw [sq_length, l1]
  have l3 : (sq 2 (sq 1 (sq 0 l))).length = 4 := by rw [sq_length, l2]
  rw [sb_sq (by omega) l3 (sq_lt (sq_lt (sq_lt h))), sb_sq (by omega) l2 (sq_lt (sq_lt h)), sb_sq (by omega) l1 (sq_lt h), sb_sq (by omega) hl h]

/- four words of a grid turned -/
def turnP (l : List Nat) (a b c d : Nat) : List Nat :=
  (((l.set a (at0 (qP (at0 l a) (at0 l b) (at0 l c) (at0 l d)) 0)).set b (at0 (qP (at0 l a) (at0 l b) (at0 l c) (at0 l d)) 1)).set c (at0 (qP (at0 l a) (at0 l b) (at0 l c) (at0 l d)) 2)).set d (at0 (qP (at0 l a) (at0 l b) (at0 l c) (at0 l d)) 3)
/- the i-th turn of a round: s = 0: of the columns, s = 1: of the slants -/
def turnI (s i : Nat) (l : List Nat) : List Nat := turnP l i (4 + (i + s) % 4) (8 + (i + 2 * s) % 4) (12 + (i + 3 * s) % 4)
def turns (s : Nat) (l : List Nat) : Nat → List Nat
  | 0 => l
  | i + 1 => turnI s i (turns s l i)
def twice (l : List Nat) : List Nat := turns 1 (turns 0 l 4) 4
def rounds (l : List Nat) : Nat → List Nat
  | 0 => l
  | k + 1 => twice (rounds l k)
/- a round of the document -/
def halves (l : List Nat) : Nat → List Nat
  | 0 => l
  | r + 1 => turns (r % 2) (halves l r) 4

theorem turnP_length (l : List Nat) (a b c d : Nat) : (turnP l a b c d).length = l.length := by simp [turnP]
theorem turns_length (s : Nat) (l : List Nat) : ∀ i, (turns s l i).length = l.length
  | 0 => rfl
  | i + 1 => by rw [turns, turnI, turnP_length, turns_length s l i]
theorem rounds_length (l : List Nat) : ∀ k, (rounds l k).length = l.length
  | 0 => rfl
  | k + 1 => by rw [rounds, twice, turns_length, turns_length, rounds_length l k]
theorem halves_length (l : List Nat) : ∀ k, (halves l k).length = l.length
  | 0 => rfl
  | k + 1 => by rw [halves, turns_length, halves_length l k]
theorem lt4 {a b c d : Nat} (ha : a < 4294967296) (hb : b < 4294967296) (hc : c < 4294967296) (hd : d < 4294967296) : Lt 4294967296 [a, b, c, d] := by
  intro x hx
  simp at hx
  omega
theorem qP_lt {a b c d : Nat} (ha : a < 4294967296) (hb : b < 4294967296) (hc : c < 4294967296) (hd : d < 4294967296) : Lt 4294967296 (qP a b c d) := qs_lt (lt4 ha hb hc hd) 4
theorem qP_length (a b c d : Nat) : (qP a b c d).length = 4 := qs_length _ 4
theorem turnP_lt {l : List Nat} (h : Lt 4294967296 l) (a b c d : Nat) : Lt 4294967296 (turnP l a b c d) := by
  have q := qP_lt (h.at (by omega) a) (h.at (by omega) b) (h.at (by omega) c) (h.at (by omega) d)
  exact (((h.set (q.at (by omega) _) _).set (q.at (by omega) _) _).set (q.at (by omega) _) _).set (q.at (by omega) _) _
theorem turns_lt {s : Nat} {l : List Nat} (h : Lt 4294967296 l) : ∀ i, Lt 4294967296 (turns s l i)
  | 0 => h
  | i + 1 => turnP_lt (turns_lt h i) _ _ _ _
theorem rounds_lt {l : List Nat} (h : Lt 4294967296 l) : ∀ k, Lt 4294967296 (rounds l k)
  | 0 => h
  | k + 1 => by
    rw [rounds, twice]
    exact turns_lt (turns_lt (rounds_lt h k) 4) 4
theorem halves_lt {l : List Nat} (h : Lt 4294967296 l) : ∀ k, Lt 4294967296 (halves l k)
  | 0 => h
  | k + 1 => by
    rw [halves]
    exact turns_lt (halves_lt h k) 4
theorem halves_two (l : List Nat) (r : Nat) : halves l (r + 2) = turns ((r + 1) % 2) (turns (r % 2) (halves l r) 4) 4 := by rw [halves, halves]
theorem halves_rounds (l : List Nat) (k : Nat) : halves l (2 * k) = rounds l k := by
  induction k with
  | zero => rw [Nat.mul_zero, halves, rounds]
  | succ k ih =>
    rw [show 2 * (k + 1) = 2 * k + 2 by omega, halves_two, ih, show (2 * k + 1) % 2 = 1 by omega, show 2 * k % 2 = 0 by omega, rounds, twice]

end Go.Proofs.YtlkkninnfiaedaaDoor.Pg

namespace Go.Proofs.YtlkkninnfiaedaaDoor.Pg
open Go.RowKit
set_option maxRecDepth 100000

theorem hide1 {p : Prop} (h : p) : Hid p := h
structure Shy (p : Prop) : Prop where
  out : p
theorem not_any (x : Bool) (w : World) : (Op.unary .not (.bool x)).run Tryd.prog w = .ok (.bool (!x)) w := rfl
attribute [local go_sem] not_any

theorem wrap32 (x : Nat) : IntKind.u32.wrap (x : Int) = ((x % 4294967296 : Nat) : Int) := by
  rw [IntKind.wrap_u32]
  omega
theorem wrap32_add (x y : Nat) : IntKind.u32.wrap ((x : Int) + (y : Int)) = (((x + y) % 4294967296 : Nat) : Int) := by
  rw [← Int.natCast_add, wrap32]
theorem sum_int (x y : Nat) : ((x : Int) + (y : Int)) % 4294967296 = (((x + y) % 4294967296 : Nat) : Int) := by omega
theorem wrap32_sub (x y : Nat) (hy : y < 4294967296) : IntKind.u32.wrap ((x : Int) - (y : Int)) = (((x + (4294967296 - y)) % 4294967296 : Nat) : Int) := by
  rw [IntKind.wrap_u32]
  omega
theorem ret_int {k : IntKind} {a b : Int} (h : a = b) : Ending.returned (.int k a) = .returned (.int k b) := by rw [h]

theorem pos_and : ∀ n : Nat, n < 32 → bits .and .u64 (n : Int) 31 = (n : Int) := by decide +kernel

theorem rot_int {x n : Nat} (hx : x < 4294967296) : bits .or .u32 ((x : Int) * 2 ^ n % 4294967296) ((x : Int) / 2 ^ (32 - n)) = ((rotl n x : Nat) : Int) := by
  have e1 : (x : Int) * 2 ^ n % 4294967296 = ((x * 2 ^ n % 4294967296 : Nat) : Int) := by
    rw [Int.natCast_emod, Int.natCast_mul, Int.natCast_pow]; rfl
  have e2 : (x : Int) / 2 ^ (32 - n) = ((x / 2 ^ (32 - n) : Nat) : Int) := by
    rw [Int.natCast_ediv, Int.natCast_pow]; rfl
  rw [e1, e2, u32_or_nat _ _ (Nat.mod_lt _ (by omega)) (Nat.lt_of_le_of_lt (Nat.div_le_self _ _) hx)]
  rfl

theorem rl_any (x n : Nat) (w : World) (h1 : 1 ≤ n) (h2 : n ≤ 31) (hx : x < 4294967296) :
    Calls Tryd.prog 118 #[.int .u32 (x : Int), .int .i64 (n : Int)] w fun e w' => e = .returned (.int .u32 (rotl n x : Nat)) ∧ w' = w := by
  have e1 := pos_and n (by omega)
  go_enter Tryd.func118, Tryd.ntmps118
  go_wp2
  go_ret
  exact ⟨ret_int (rot_int hx), rfl⟩

theorem rl_i (x : Nat) (m : Int) (w : World) (h1 : 1 ≤ m) (h2 : m ≤ 31) (hx : x < 4294967296) :
    Calls Tryd.prog 118 #[.int .u32 (x : Int), .int .i64 m] w fun e w' => e = .returned (.int .u32 (rotl m.toNat x : Nat)) ∧ w' = w := by
  obtain ⟨n, rfl⟩ := Int.eq_ofNat_of_zero_le (show 0 ≤ m by omega)
  exact rl_any x n w (by omega) (by omega) hx

theorem left_any (x n : Nat) (w : World) (h1 : 1 ≤ n) (h2 : n ≤ 31) (hx : x < 4294967296) :
    Calls Tryd.prog 114 #[.int .u32 (x : Int), .int .u64 (n : Int)] w fun e w' => e = .returned (.int .u32 (rotl n x : Nat)) ∧ w' = w := by
  go_enter Tryd.func114, Tryd.ntmps114
  go_wp2
  go_ret
  exact ⟨ret_int (rot_int hx), rfl⟩

theorem results_tmp4 {fn : Func} {t u v x : Tmp} (h : fn.results = #[.tmp t, .tmp u, .tmp v, .tmp x]) (tmps : Array Value) (P : Program) (w : World) :
    (results fn tmps).run P w = .ok (.tuple #[tmps.getD t undef, tmps.getD u undef, tmps.getD v undef, tmps.getD x undef]) w := by
  simp [results, h]

/- four words turned -/
theorem quarter_any (a b c d : Nat) (w : World) (_ha : a < 4294967296) (hb : b < 4294967296) (_hc : c < 4294967296) (hd : d < 4294967296) :
    Calls Tryd.prog 119 #[.int .u32 (a : Int), .int .u32 (b : Int), .int .u32 (c : Int), .int .u32 (d : Int)] w fun e w' =>
      e = .returned (.tuple #[.int .u32 (at0 (qP a b c d) 0 : Nat), .int .u32 (at0 (qP a b c d) 1 : Nat), .int .u32 (at0 (qP a b c d) 2 : Nat), .int .u32 (at0 (qP a b c d) 3 : Nat)]) ∧ w' = w := by
  obtain ⟨a1, ha1⟩ : ∃ x, x = (a + b) % 4294967296 := ⟨_, rfl⟩
  obtain ⟨d0, hd0⟩ : ∃ x, x = d ^^^ a1 := ⟨_, rfl⟩
  obtain ⟨d1, hd1⟩ : ∃ x, x = rotl 16 d0 := ⟨_, rfl⟩
  obtain ⟨c1, hc1⟩ : ∃ x, x = (c + d1) % 4294967296 := ⟨_, rfl⟩
  obtain ⟨b0, hb0⟩ : ∃ x, x = b ^^^ c1 := ⟨_, rfl⟩
  obtain ⟨b1, hb1⟩ : ∃ x, x = rotl 12 b0 := ⟨_, rfl⟩
  obtain ⟨a2, ha2⟩ : ∃ x, x = (a1 + b1) % 4294967296 := ⟨_, rfl⟩
  obtain ⟨d2, hd2⟩ : ∃ x, x = d1 ^^^ a2 := ⟨_, rfl⟩
  obtain ⟨d3, hd3⟩ : ∃ x, x = rotl 8 d2 := ⟨_, rfl⟩
  obtain ⟨c2, hc2⟩ : ∃ x, x = (c1 + d3) % 4294967296 := ⟨_, rfl⟩
  obtain ⟨b2, hb2⟩ : ∃ x, x = b1 ^^^ c2 := ⟨_, rfl⟩
  obtain ⟨b3, hb3⟩ : ∃ x, x = rotl 7 b2 := ⟨_, rfl⟩
  have HQ : Shy (qP a b c d = [a2, b3, c2, d3]) := ⟨by rw [hb3, hb2, hc2, hd3, hd2, ha2, hb1, hb0, hc1, hd1, hd0, ha1]; rfl⟩
  have e1 : IntKind.u32.wrap ((a : Int) + (b : Int)) = (a1 : Int) := by rw [ha1]; exact wrap32_add _ _
  have la1 : a1 < 4294967296 := by omega
  have e2 : bits .xor .u32 (d : Int) (a1 : Int) = (d0 : Int) := by rw [hd0]; exact u32_xor_nat _ _ hd la1
  have ld0 : d0 < 4294967296 := by rw [hd0]; exact xor_lt hd la1
  have ld1 : d1 < 4294967296 := by rw [hd1]; exact rotl_lt ld0
  have e3 : IntKind.u32.wrap ((c : Int) + (d1 : Int)) = (c1 : Int) := by rw [hc1]; exact wrap32_add _ _
  have lc1 : c1 < 4294967296 := by omega
  have e4 : bits .xor .u32 (b : Int) (c1 : Int) = (b0 : Int) := by rw [hb0]; exact u32_xor_nat _ _ hb lc1
  have lb0 : b0 < 4294967296 := by rw [hb0]; exact xor_lt hb lc1
  have lb1 : b1 < 4294967296 := by rw [hb1]; exact rotl_lt lb0
  have e5 : IntKind.u32.wrap ((a1 : Int) + (b1 : Int)) = (a2 : Int) := by rw [ha2]; exact wrap32_add _ _
  have la2 : a2 < 4294967296 := by omega
  have e6 : bits .xor .u32 (d1 : Int) (a2 : Int) = (d2 : Int) := by rw [hd2]; exact u32_xor_nat _ _ ld1 la2
  have ld2 : d2 < 4294967296 := by rw [hd2]; exact xor_lt ld1 la2
  have ld3 : d3 < 4294967296 := by rw [hd3]; exact rotl_lt ld2
  have e7 : IntKind.u32.wrap ((c1 : Int) + (d3 : Int)) = (c2 : Int) := by rw [hc2]; exact wrap32_add _ _
  have lc2 : c2 < 4294967296 := by omega
  have e8 : bits .xor .u32 (b1 : Int) (c2 : Int) = (b2 : Int) := by rw [hb2]; exact u32_xor_nat _ _ lb1 lc2
  have lb2 : b2 < 4294967296 := by rw [hb2]; exact xor_lt lb1 lc2
  have k1 : Hid (∀ w, Calls Tryd.prog 118 #[.int .u32 (d0 : Int), .int .i64 16] w fun e w' => e = .returned (.int .u32 (d1 : Nat)) ∧ w' = w) := by rw [hd1]; exact fun w => rl_i d0 16 w (by decide) (by decide) ld0
  have k2 : Hid (∀ w, Calls Tryd.prog 118 #[.int .u32 (b0 : Int), .int .i64 12] w fun e w' => e = .returned (.int .u32 (b1 : Nat)) ∧ w' = w) := by rw [hb1]; exact fun w => rl_i b0 12 w (by decide) (by decide) lb0
  have k3 : Hid (∀ w, Calls Tryd.prog 118 #[.int .u32 (d2 : Int), .int .i64 8] w fun e w' => e = .returned (.int .u32 (d3 : Nat)) ∧ w' = w) := by rw [hd3]; exact fun w => rl_i d2 8 w (by decide) (by decide) ld2
  have k4 : Hid (∀ w, Calls Tryd.prog 118 #[.int .u32 (b2 : Int), .int .i64 7] w fun e w' => e = .returned (.int .u32 (b3 : Nat)) ∧ w' = w) := by rw [hb3]; exact fun w => rl_i b2 7 w (by decide) (by decide) lb2
  rw [HQ.out]
  clear ha1 hd0 hd1 hc1 hb0 hb1 ha2 hd2 hd3 hc2 hb2 hb3 HQ la1 ld0 ld1 lc1 lb0 lb1 la2 ld2 ld3 lc2 lb2 hb hd
  go_enter Tryd.func119, Tryd.ntmps119
  go_wp2_with fail
  go_at_call 118
  refine (k1.out _).mono ?_
  rintro e w' ⟨rfl, rfl⟩
  go_wp2_with fail
  go_at_call 118
  refine (k2.out _).mono ?_
  rintro e w' ⟨rfl, rfl⟩
  go_wp2_with fail
  go_at_call 118
  refine (k3.out _).mono ?_
  rintro e w' ⟨rfl, rfl⟩
  go_wp2_with fail
  go_at_call 118
  refine (k4.out _).mono ?_
  rintro e w' ⟨rfl, rfl⟩
  go_wp2_with fail
  refine bodyPost_ret (results_tmp4 rfl _ _ _) rfl ?_
  exact ⟨rfl, rfl⟩

def u32s (l : List Nat) : List Value := l.map (fun n : Nat => Value.int .u32 (n : Int))
def u8s (l : List Nat) : List Value := l.map (fun n : Nat => Value.int .u8 (n : Int))
def row32 (t : TypeId) (l : List Nat) : Obj := .cells (u32s l).toArray t (0, 0)
def row8 (t : TypeId) (l : List Nat) : Obj := .cells (u8s l).toArray t (0, 0)
def arr32 (l : List Nat) : Value := .agg (u32s l).toArray
def arr8 (l : List Nat) : Value := .agg (u8s l).toArray

theorem u32s_length (l : List Nat) : (u32s l).length = l.length := by simp [u32s]
theorem u8s_length (l : List Nat) : (u8s l).length = l.length := by simp [u8s]
theorem u32s_one (l : List Nat) : ∀ v ∈ u32s l, v.oneCell' = true := by
  intro v hv
  simp only [u32s, List.mem_map] at hv
  obtain ⟨n, _, rfl⟩ := hv
  rfl
theorem u8s_one (l : List Nat) : ∀ v ∈ u8s l, v.oneCell' = true := by
  intro v hv
  simp only [u8s, List.mem_map] at hv
  obtain ⟨n, _, rfl⟩ := hv
  rfl
theorem all_one {cs : List Value} (h : ∀ v ∈ cs, v.oneCell' = true) : cs.toArray.all (·.oneCell') = true :=
  Array.all_eq_true_iff_forall_mem.2 (fun v hv => h v (by simpa using hv))

theorem lt_heap {w : World} {k : Nat} {o : Obj} (h : w.heap[k]? = some o) : k < w.heap.size := (Array.getElem?_eq_some_iff.1 h).1
theorem lt_cell {w : World} {p : Addr} {v : Value} (h : w.cell? p = some v) : p.block < w.heap.size := by
  rcases Nat.lt_or_ge p.block w.heap.size with h1 | h1
  · exact h1
  · have : w.heap[p.block]? = none := Array.getElem?_eq_none h1
    simp [World.cell?, this] at h

theorem cell32 {w : World} {g j : Nat} {t : TypeId} {l : List Nat} (h : w.heap[g]? = some (row32 t l)) (hj : j < l.length) : w.cell? ⟨g, j, none⟩ = some (.int .u32 (at0 l j : Nat)) := by
  rw [cell_of_row w g j _ t (0, 0) h]
  simp [u32s, get_at0 hj]
theorem cell8 {w : World} {g j : Nat} {t : TypeId} {l : List Nat} (h : w.heap[g]? = some (row8 t l)) (hj : j < l.length) : w.cell? ⟨g, j, none⟩ = some (.int .u8 (at0 l j : Nat)) := by
  rw [cell_of_row w g j _ t (0, 0) h]
  simp [u8s, get_at0 hj]
theorem set32 {w : World} {g j x : Nat} {t : TypeId} {l : List Nat} (h : w.heap[g]? = some (row32 t l)) : (w.setCell ⟨g, j, none⟩ (.int .u32 (x : Int))).heap[g]? = some (row32 t (l.set j x)) := by
  rw [heap_setCell_same w g j _ t _ h]
  unfold row32 u32s
  congr 2
  simp
theorem set8 {w : World} {g j x : Nat} {t : TypeId} {l : List Nat} (h : w.heap[g]? = some (row8 t l)) : (w.setCell ⟨g, j, none⟩ (.int .u8 (x : Int))).heap[g]? = some (row8 t (l.set j x)) := by
  rw [heap_setCell_same w g j _ t _ h]
  unfold row8 u8s
  congr 2
  simp

/- a whole row stored -/
theorem wpList_store_own {P : Program} {ops : Array Oper} {rest : List Oper} {o : Oper} {a : Act} {w : World} {Q : Exit → Act → World → Prop} (hgd : o.guard = none) (ty : TypeId) (x y : Operand) (ho : o.op = .store ty x y)
    (g : Nat) (hx : a.eval x = .pointer (some ⟨g, 0, none⟩)) (cs' : Array Value) (hy : a.eval y = .agg cs') (t : TypeId) (cs : Array Value) (hg : w.heap[g]? = some (.cells cs t (0, 0)))
    (hi : (P.info? ty).map (·.size) = some cs'.size) (hs : cs.size = cs'.size) (h1 : cs'.all (·.oneCell') = true)
    (h : wpList P ops Q rest (a.put o.dst undef) (w.setRow g cs')) : wpList P ops Q (o :: rest) a w :=
  wpList_plain hgd fun K hK => by
    have e := run_storeVar_row (P := P) w g t ty cs cs' hg hi hs h1
    unfold Oper.wp execOp
    simp only [ho, hx, hy, Instr.storeAt, Instr.sureAddr, Sem.run_bind, Sem.run_pure, Result.andThen_ok, e]
    exact hK _ _ h

theorem bodyPost_ret_by {P : Program} {fn : Func} {R : Ending → World → Prop} {a : Act} {w : World} {v : Value}
    (hr : (results fn a.tmps).run P w = .ok v w) (hd : a.defers = []) (hR : R (.returned v) w) : bodyPost P fn R .ret a w := bodyPost_ret hr hd hR

/- a result that is a row -/
theorem ret_row {fn : Func} {p : Tmp} {ty : TypeId} (h : fn.results = #[.cell p ty]) {R : Ending → World → Prop} {a : Act} {w : World} (g : Nat) (t : TypeId) (cs : Array Value) {n : Nat} {el : TypeId} (hp : a.tmps.getD p undef = .pointer (some ⟨g, 0, none⟩))
    (hg : w.heap[g]? = some (.cells cs t (0, 0))) (hu : Tryd.prog.underlying ty = some (.array n el)) (hi : (Tryd.prog.info? ty).map (·.size) = some cs.size)
    (hd : a.defers = []) (hR : R (.returned (.agg cs)) w) : bodyPost Tryd.prog fn R .ret a w :=
  bodyPost_ret_by (results_cell_row (P := Tryd.prog) h _ w g t cs (0, 0) _ hp hg hu rfl hi) hd hR


theorem below_drewN' {B : Nat} {w w' : World} (h : Below B w w') (q : Nat) : Below B w (w'.drewN q) := ⟨h.1, h.2, h.3, h.4, h.5⟩
theorem Below.setRow' {B g : Nat} {w0 w : World} (hb : Below B w0 w) (hBg : B ≤ g) (cs : Array Value) : Below B w0 (w.setRow g cs) :=
  hb.trans ⟨rfl, rfl, rfl, by simp [World.setRow], fun k hk => setRow_other w g k cs (by omega)⟩

end Go.Proofs.YtlkkninnfiaedaaDoor.Pg
