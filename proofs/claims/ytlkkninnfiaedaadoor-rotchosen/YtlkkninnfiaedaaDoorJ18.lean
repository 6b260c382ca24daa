/- Pure: words of 32 bits, turned and mixed; the rounds; the words of all rounds. The small functions of package sha: rotr, and the document's right. Rows of words and bytes in memory; whole rows stored; the two tables; a result that is a row. -/
import Derived.Test.YtlkkninnfiaedaaDoorRows
import Derived.WalkKit
import Derived.WalkSpells
import Derived.WalkLawsBesides
import Derived.Below
import Derived.Deep.QuietTactic
import Derived.BigQuiet
import Derived.BigRegion
import Derived.Laws.Rows
import Derived.Laws.Tables
import Derived.Deep.WholeRow
namespace Go.Proofs.YtlkkninnfiaedaaDoor.Sh

def at0 (l : List Nat) (i : Nat) : Nat := l[i]?.getD 0

theorem at0_get {l : List Nat} {i x : Nat} (h : l[i]? = some x) : at0 l i = x := by simp [at0, h]
theorem get_at0 {l : List Nat} {i : Nat} (h : i < l.length) : l[i]? = some (at0 l i) := by
  simp [at0, List.getElem?_eq_getElem h]
theorem at0_none {l : List Nat} {i : Nat} (h : l.length ≤ i) : at0 l i = 0 := by
  simp [at0, List.getElem?_eq_none h]
theorem at0_ext {l m : List Nat} (h : l.length = m.length) (h2 : ∀ i, i < l.length → at0 l i = at0 m i) : l = m := by
  apply List.ext_getElem?
  intro i
  by_cases hi : i < l.length
  · rw [get_at0 hi, get_at0 (by omega), h2 i hi]
  · rw [List.getElem?_eq_none (by omega), List.getElem?_eq_none (by omega)]
theorem at0_append_left {l m : List Nat} {i : Nat} (h : i < l.length) : at0 (l ++ m) i = at0 l i := by
  simp [at0, List.getElem?_append_left h]
theorem at0_append_right {l m : List Nat} {i : Nat} (h : l.length ≤ i) : at0 (l ++ m) i = at0 m (i - l.length) := by
  simp [at0, List.getElem?_append_right h]
theorem at0_map_range {f : Nat → Nat} {n i : Nat} (h : i < n) : at0 ((List.range n).map f) i = f i := by
  simp [at0, h]
theorem at0_take {l : List Nat} {n i : Nat} (h : i < n) : at0 (l.take n) i = at0 l i := by
  simp [at0, h]
theorem at0_drop {l : List Nat} {n i : Nat} : at0 (l.drop n) i = at0 l (n + i) := by
  simp [at0, List.getElem?_drop]
theorem at0_replicate {n i : Nat} : at0 (List.replicate n 0) i = 0 := by
  simp only [at0, List.getElem?_replicate]
  split <;> rfl

/- all are below m -/
def Lt (m : Nat) (l : List Nat) : Prop := ∀ x ∈ l, x < m
theorem Lt.at {m : Nat} {l : List Nat} (h : Lt m l) (hm : 0 < m) (i : Nat) : at0 l i < m := by
  by_cases hi : i < l.length
  · exact h _ (by rw [at0, List.getElem?_eq_getElem hi]; exact List.getElem_mem hi)
  · rw [at0_none (by omega)]; exact hm
theorem Lt.app {m : Nat} {l k : List Nat} (h : Lt m l) (h2 : Lt m k) : Lt m (l ++ k) := by
  intro x hx
  rcases List.mem_append.1 hx with hx | hx
  · exact h x hx
  · exact h2 x hx
theorem Lt.take {m : Nat} {l : List Nat} (h : Lt m l) (n : Nat) : Lt m (l.take n) := fun x hx => h x (List.mem_of_mem_take hx)
theorem Lt.drop {m : Nat} {l : List Nat} (h : Lt m l) (n : Nat) : Lt m (l.drop n) := fun x hx => h x (List.mem_of_mem_drop hx)
theorem lt_replicate {m : Nat} (h : 0 < m) (n : Nat) : Lt m (List.replicate n 0) := by
  intro x hx
  rw [List.mem_replicate] at hx
  omega
theorem lt_one {m x : Nat} (h : x < m) : Lt m [x] := by
  intro y hy
  simp at hy
  omega
theorem lt_nil {m : Nat} : Lt m [] := by intro x hx; simp at hx
theorem Lt.set {m : Nat} {l : List Nat} (h : Lt m l) {x : Nat} (hx : x < m) (i : Nat) : Lt m (l.set i x) := by
  intro y hy
  rcases List.mem_or_eq_of_mem_set hy with hy | rfl
  · exact h y hy
  · exact hx

/- a word turned to the right -/
def rot (n x : Nat) : Nat := (x * 2 ^ (32 - n)) % 4294967296 ||| x / 2 ^ n

theorem rot_lt {n x : Nat} (hx : x < 4294967296) : rot n x < 4294967296 := by
  refine Nat.or_lt_two_pow (n := 32) (Nat.mod_lt _ (by omega)) ?_
  exact Nat.lt_of_le_of_lt (Nat.div_le_self _ _) hx

def bs0 (x : Nat) : Nat := rot 2 x ^^^ rot 13 x ^^^ rot 22 x
def bs1 (x : Nat) : Nat := rot 6 x ^^^ rot 11 x ^^^ rot 25 x
def gs0 (x : Nat) : Nat := rot 7 x ^^^ rot 18 x ^^^ x / 8
def gs1 (x : Nat) : Nat := rot 17 x ^^^ rot 19 x ^^^ x / 1024
def cho (e f g : Nat) : Nat := (e &&& f) ^^^ ((4294967295 - e) &&& g)
def maj (a b c : Nat) : Nat := (a &&& b) ^^^ (a &&& c) ^^^ (b &&& c)

theorem xor_lt {x y : Nat} (hx : x < 4294967296) (hy : y < 4294967296) : x ^^^ y < 4294967296 := Nat.xor_lt_two_pow (n := 32) hx hy
theorem and_lt {x y : Nat} (hy : y < 4294967296) : x &&& y < 4294967296 := Nat.lt_of_le_of_lt Nat.and_le_right hy
theorem or_lt {x y : Nat} (hx : x < 4294967296) (hy : y < 4294967296) : x ||| y < 4294967296 := Nat.or_lt_two_pow (n := 32) hx hy
theorem bs0_lt {x : Nat} (hx : x < 4294967296) : bs0 x < 4294967296 := xor_lt (xor_lt (rot_lt hx) (rot_lt hx)) (rot_lt hx)
theorem bs1_lt {x : Nat} (hx : x < 4294967296) : bs1 x < 4294967296 := xor_lt (xor_lt (rot_lt hx) (rot_lt hx)) (rot_lt hx)
theorem div_lt' {x n : Nat} (hx : x < 4294967296) : x / n < 4294967296 := Nat.lt_of_le_of_lt (Nat.div_le_self _ _) hx
theorem gs0_lt {x : Nat} (hx : x < 4294967296) : gs0 x < 4294967296 := xor_lt (xor_lt (rot_lt hx) (rot_lt hx)) (div_lt' hx)
theorem gs1_lt {x : Nat} (hx : x < 4294967296) : gs1 x < 4294967296 := xor_lt (xor_lt (rot_lt hx) (rot_lt hx)) (div_lt' hx)

theorem maj_or (a b c : Nat) : maj a b c = (a &&& b) ||| (a &&& c) ||| (b &&& c) := by
  apply Nat.eq_of_testBit_eq
  intro i
  simp only [maj, Nat.testBit_xor, Nat.testBit_or, Nat.testBit_and]
  cases a.testBit i <;> cases b.testBit i <;> cases c.testBit i <;> rfl

theorem rot_comm (n x : Nat) : rot n x = x / 2 ^ n ||| (x * 2 ^ (32 - n)) % 4294967296 := by rw [rot, Nat.or_comm]

/- the eight words within the rounds -/
structure S8 where
  a : Nat
  b : Nat
  c : Nat
  d : Nat
  e : Nat
  f : Nat
  g : Nat
  h : Nat

structure S8.Ok (s : S8) : Prop where
  a : s.a < 4294967296
  b : s.b < 4294967296
  c : s.c < 4294967296
  d : s.d < 4294967296
  e : s.e < 4294967296
  f : s.f < 4294967296
  g : s.g < 4294967296
  h : s.h < 4294967296

def S8.t (s : S8) (k w : Nat) : Nat := (s.h + bs1 s.e + cho s.e s.f s.g + k + w) % 4294967296
def S8.u (s : S8) : Nat := (bs0 s.a + maj s.a s.b s.c) % 4294967296
def S8.step (s : S8) (k w : Nat) : S8 := ⟨(s.t k w + s.u) % 4294967296, s.a, s.b, s.c, (s.d + s.t k w) % 4294967296, s.e, s.f, s.g⟩

theorem S8.step_ok {s : S8} (h : s.Ok) (k w : Nat) : (s.step k w).Ok :=
  ⟨Nat.mod_lt _ (by omega), h.a, h.b, h.c, Nat.mod_lt _ (by omega), h.e, h.f, h.g⟩

def S8.of (l : List Nat) : S8 := ⟨at0 l 0, at0 l 1, at0 l 2, at0 l 3, at0 l 4, at0 l 5, at0 l 6, at0 l 7⟩
def S8.list (s : S8) : List Nat := [s.a, s.b, s.c, s.d, s.e, s.f, s.g, s.h]
theorem S8.of_ok {l : List Nat} (h : Lt 4294967296 l) : (S8.of l).Ok :=
  ⟨h.at (by omega) _, h.at (by omega) _, h.at (by omega) _, h.at (by omega) _, h.at (by omega) _, h.at (by omega) _, h.at (by omega) _, h.at (by omega) _⟩
theorem S8.list_lt {s : S8} (h : s.Ok) : Lt 4294967296 s.list := by
  have := h.a; have := h.b; have := h.c; have := h.d; have := h.e; have := h.f; have := h.g; have := h.h
  intro x hx
  simp [S8.list] at hx
  omega

/- the state behind i rounds -/
def rnd (ks ws : List Nat) (s : S8) : Nat → S8
  | 0 => s
  | i + 1 => (rnd ks ws s i).step (at0 ks i) (at0 ws i)
theorem rnd_ok {ks ws : List Nat} {s : S8} (h : s.Ok) : ∀ i, (rnd ks ws s i).Ok
  | 0 => h
  | i + 1 => S8.step_ok (rnd_ok h i) _ _

/- the words of all rounds, one by one -/
def nextW (l : List Nat) : Nat := (at0 l (l.length - 16) + gs0 (at0 l (l.length - 15)) + at0 l (l.length - 7) + gs1 (at0 l (l.length - 2))) % 4294967296
def sched (b : List Nat) : Nat → List Nat
  | 0 => b
  | n + 1 => sched b n ++ [nextW (sched b n)]
theorem sched_length (b : List Nat) : ∀ n, (sched b n).length = b.length + n
  | 0 => rfl
  | n + 1 => by simp [sched, sched_length b n]; omega
theorem sched_lt {b : List Nat} (h : Lt 4294967296 b) : ∀ n, Lt 4294967296 (sched b n)
  | 0 => h
  | n + 1 => (sched_lt h n).app (lt_one (Nat.mod_lt _ (by omega)))

/- two lists added, word by word -/
def addW (l m : List Nat) : List Nat := (List.range 8).map (fun i => (at0 l i + at0 m i) % 4294967296)
theorem addW_length (l m : List Nat) : (addW l m).length = 8 := by simp [addW]
theorem addW_lt (l m : List Nat) : Lt 4294967296 (addW l m) := by
  intro x hx
  simp only [addW, List.mem_map] at hx
  obtain ⟨i, _, rfl⟩ := hx
  exact Nat.mod_lt _ (by omega)
theorem at0_addW {l m : List Nat} {i : Nat} (h : i < 8) : at0 (addW l m) i = (at0 l i + at0 m i) % 4294967296 := at0_map_range h

/- 64 bytes, or words, taken into eight words -/
def comp (ks h b : List Nat) : List Nat := addW h (rnd ks (sched b 48) (S8.of h) 64).list

end Go.Proofs.YtlkkninnfiaedaaDoor.Sh

namespace Go.Proofs.YtlkkninnfiaedaaDoor.Sh
open Go.RowKit
set_option maxRecDepth 100000

theorem hide1 {p : Prop} (h : p) : Hid p := h
theorem not_any (x : Bool) (w : World) : (Op.unary .not (.bool x)).run Tryd.prog w = .ok (.bool (!x)) w := rfl
attribute [local go_sem] not_any

theorem wrap32 (x : Nat) : IntKind.u32.wrap (x : Int) = ((x % 4294967296 : Nat) : Int) := by
  rw [IntKind.wrap_u32]
  omega
theorem wrap32_add (x y : Nat) : IntKind.u32.wrap ((x : Int) + (y : Int)) = (((x + y) % 4294967296 : Nat) : Int) := by
  rw [← Int.natCast_add, wrap32]
theorem ret_int {k : IntKind} {a b : Int} (h : a = b) : Ending.returned (.int k a) = .returned (.int k b) := by rw [h]

theorem neg_and : ∀ n : Nat, n < 32 → 1 ≤ n → bits .and .u64 (IntKind.u64.wrap (-(n : Int))) 31 = ((32 - n : Nat) : Int) := by decide +kernel

theorem rot_int {x n : Nat} (h1 : 1 ≤ n) (h2 : n ≤ 31) (hx : x < 4294967296) : bits .or .u32 ((x : Int) * 2 ^ (32 - n) % 4294967296) ((x : Int) / 2 ^ (32 - (32 - n))) = ((rot n x : Nat) : Int) := by
  have e1 : (x : Int) * 2 ^ (32 - n) % 4294967296 = ((x * 2 ^ (32 - n) % 4294967296 : Nat) : Int) := by
    rw [Int.natCast_emod, Int.natCast_mul, Int.natCast_pow]; rfl
  have e2 : (x : Int) / 2 ^ (32 - (32 - n)) = ((x / 2 ^ n : Nat) : Int) := by
    rw [show 32 - (32 - n) = n by omega, Int.natCast_ediv, Int.natCast_pow]; rfl
  rw [e1, e2, u32_or_nat _ _ (Nat.mod_lt _ (by omega)) (Nat.lt_of_le_of_lt (Nat.div_le_self _ _) hx)]
  rfl

theorem rot_int2 {x n : Nat} (hx : x < 4294967296) : bits .or .u32 ((x : Int) / 2 ^ n) ((x : Int) * 2 ^ (32 - n) % 4294967296) = ((rot n x : Nat) : Int) := by
  have e1 : (x : Int) * 2 ^ (32 - n) % 4294967296 = ((x * 2 ^ (32 - n) % 4294967296 : Nat) : Int) := by
    rw [Int.natCast_emod, Int.natCast_mul, Int.natCast_pow]; rfl
  have e2 : (x : Int) / 2 ^ n = ((x / 2 ^ n : Nat) : Int) := by
    rw [Int.natCast_ediv, Int.natCast_pow]; rfl
  rw [e1, e2, u32_or_nat _ _ (Nat.lt_of_le_of_lt (Nat.div_le_self _ _) hx) (Nat.mod_lt _ (by omega)), rot_comm]

theorem rl_any (x n : Nat) (w : World) (h1 : 1 ≤ n) (h2 : n ≤ 31) (hx : x < 4294967296) :
    Calls Tryd.prog 118 #[.int .u32 (x : Int), .int .i64 (-(n : Int))] w fun e w' => e = .returned (.int .u32 (rot n x : Nat)) ∧ w' = w := by
  have e1 := neg_and n (by omega) h1
  go_enter Tryd.func118, Tryd.ntmps118
  go_wp2
  go_ret
  exact ⟨ret_int (rot_int h1 h2 hx), rfl⟩

theorem rotr_any (x n : Nat) (w : World) (h1 : 1 ≤ n) (h2 : n ≤ 31) (hx : x < 4294967296) :
    Calls Tryd.prog 112 #[.int .u32 (x : Int), .int .i64 (n : Int)] w fun e w' => e = .returned (.int .u32 (rot n x : Nat)) ∧ w' = w := by
  have c := fun w => hide1 (rl_any x n w h1 h2 hx)
  go_enter Tryd.func112, Tryd.ntmps112
  go_wp2_with (first | (go_at_call 118; refine (c _).out.mono ?_; rintro e w' ⟨rfl, rfl⟩))
  go_ret
  exact ⟨rfl, rfl⟩

theorem rotr_i (x : Nat) (m : Int) (w : World) (h1 : 1 ≤ m) (h2 : m ≤ 31) (hx : x < 4294967296) :
    Calls Tryd.prog 112 #[.int .u32 (x : Int), .int .i64 m] w fun e w' => e = .returned (.int .u32 (rot m.toNat x : Nat)) ∧ w' = w := by
  obtain ⟨n, rfl⟩ := Int.eq_ofNat_of_zero_le (show 0 ≤ m by omega)
  exact rotr_any x n w (by omega) (by omega) hx

theorem right_any (x n : Nat) (w : World) (h1 : 1 ≤ n) (h2 : n ≤ 31) (hx : x < 4294967296) :
    Calls Tryd.prog 99 #[.int .u32 (x : Int), .int .u64 (n : Int)] w fun e w' => e = .returned (.int .u32 (rot n x : Nat)) ∧ w' = w := by
  go_enter Tryd.func99, Tryd.ntmps99
  go_wp2
  go_ret
  exact ⟨ret_int (rot_int2 hx), rfl⟩

theorem right_i (x : Nat) (m : Int) (w : World) (h1 : 1 ≤ m) (h2 : m ≤ 31) (hx : x < 4294967296) :
    Calls Tryd.prog 99 #[.int .u32 (x : Int), .int .u64 m] w fun e w' => e = .returned (.int .u32 (rot m.toNat x : Nat)) ∧ w' = w := by
  obtain ⟨n, rfl⟩ := Int.eq_ofNat_of_zero_le (show 0 ≤ m by omega)
  exact right_any x n w (by omega) (by omega) hx

end Go.Proofs.YtlkkninnfiaedaaDoor.Sh

namespace Go.Proofs.YtlkkninnfiaedaaDoor.Sh
open Go.RowKit
set_option maxRecDepth 100000

def u32s (l : List Nat) : List Value := l.map (fun n : Nat => Value.int .u32 (n : Int))
def u8s (l : List Nat) : List Value := l.map (fun n : Nat => Value.int .u8 (n : Int))
def row32 (t : TypeId) (l : List Nat) : Obj := .cells (u32s l).toArray t (0, 0)
def row8 (t : TypeId) (l : List Nat) : Obj := .cells (u8s l).toArray t (0, 0)
def arr32 (l : List Nat) : Value := .agg (u32s l).toArray
def arr8 (l : List Nat) : Value := .agg (u8s l).toArray

theorem u32s_length (l : List Nat) : (u32s l).length = l.length := by simp [u32s]
theorem u8s_length (l : List Nat) : (u8s l).length = l.length := by simp [u8s]
theorem u32s_one (l : List Nat) : ∀ v ∈ u32s l, v.oneCell' = true := by
  intro v hv
  simp only [u32s, List.mem_map] at hv
  obtain ⟨n, _, rfl⟩ := hv
  rfl
theorem u8s_one (l : List Nat) : ∀ v ∈ u8s l, v.oneCell' = true := by
  intro v hv
  simp only [u8s, List.mem_map] at hv
  obtain ⟨n, _, rfl⟩ := hv
  rfl
theorem all_one {cs : List Value} (h : ∀ v ∈ cs, v.oneCell' = true) : cs.toArray.all (·.oneCell') = true :=
  Array.all_eq_true_iff_forall_mem.2 (fun v hv => h v (by simpa using hv))

theorem lt_heap {w : World} {k : Nat} {o : Obj} (h : w.heap[k]? = some o) : k < w.heap.size := (Array.getElem?_eq_some_iff.1 h).1
theorem lt_cell {w : World} {p : Addr} {v : Value} (h : w.cell? p = some v) : p.block < w.heap.size := by
  rcases Nat.lt_or_ge p.block w.heap.size with h1 | h1
  · exact h1
  · have : w.heap[p.block]? = none := Array.getElem?_eq_none h1
    simp [World.cell?, this] at h

theorem cell32 {w : World} {g j : Nat} {t : TypeId} {l : List Nat} (h : w.heap[g]? = some (row32 t l)) (hj : j < l.length) : w.cell? ⟨g, j, none⟩ = some (.int .u32 (at0 l j : Nat)) := by
  rw [cell_of_row w g j _ t (0, 0) h]
  simp [u32s, get_at0 hj]
theorem cell8 {w : World} {g j : Nat} {t : TypeId} {l : List Nat} (h : w.heap[g]? = some (row8 t l)) (hj : j < l.length) : w.cell? ⟨g, j, none⟩ = some (.int .u8 (at0 l j : Nat)) := by
  rw [cell_of_row w g j _ t (0, 0) h]
  simp [u8s, get_at0 hj]
theorem set32 {w : World} {g j x : Nat} {t : TypeId} {l : List Nat} (h : w.heap[g]? = some (row32 t l)) : (w.setCell ⟨g, j, none⟩ (.int .u32 (x : Int))).heap[g]? = some (row32 t (l.set j x)) := by
  rw [heap_setCell_same w g j _ t _ h]
  unfold row32 u32s
  congr 2
  simp
theorem set8 {w : World} {g j x : Nat} {t : TypeId} {l : List Nat} (h : w.heap[g]? = some (row8 t l)) : (w.setCell ⟨g, j, none⟩ (.int .u8 (x : Int))).heap[g]? = some (row8 t (l.set j x)) := by
  rw [heap_setCell_same w g j _ t _ h]
  unfold row8 u8s
  congr 2
  simp

/- a whole row stored -/
theorem wpList_store_own {P : Program} {ops : Array Oper} {rest : List Oper} {o : Oper} {a : Act} {w : World} {Q : Exit → Act → World → Prop} (hgd : o.guard = none) (ty : TypeId) (x y : Operand) (ho : o.op = .store ty x y)
    (g : Nat) (hx : a.eval x = .pointer (some ⟨g, 0, none⟩)) (cs' : Array Value) (hy : a.eval y = .agg cs') (t : TypeId) (cs : Array Value) (hg : w.heap[g]? = some (.cells cs t (0, 0)))
    (hi : (P.info? ty).map (·.size) = some cs'.size) (hs : cs.size = cs'.size) (h1 : cs'.all (·.oneCell') = true)
    (h : wpList P ops Q rest (a.put o.dst undef) (w.setRow g cs')) : wpList P ops Q (o :: rest) a w :=
  wpList_plain hgd fun K hK => by
    have e := run_storeVar_row (P := P) w g t ty cs cs' hg hi hs h1
    unfold Oper.wp execOp
    simp only [ho, hx, hy, Instr.storeAt, Instr.sureAddr, Sem.run_bind, Sem.run_pure, Result.andThen_ok, e]
    exact hK _ _ h

theorem bodyPost_ret_by {P : Program} {fn : Func} {R : Ending → World → Prop} {a : Act} {w : World} {v : Value}
    (hr : (results fn a.tmps).run P w = .ok v w) (hd : a.defers = []) (hR : R (.returned v) w) : bodyPost P fn R .ret a w := bodyPost_ret hr hd hR

/- a result that is a row -/
theorem ret_row {fn : Func} {p : Tmp} {ty : TypeId} (h : fn.results = #[.cell p ty]) {R : Ending → World → Prop} {a : Act} {w : World} (g : Nat) (t : TypeId) (cs : Array Value) {n : Nat} {el : TypeId} (hp : a.tmps.getD p undef = .pointer (some ⟨g, 0, none⟩))
    (hg : w.heap[g]? = some (.cells cs t (0, 0))) (hu : Tryd.prog.underlying ty = some (.array n el)) (hi : (Tryd.prog.info? ty).map (·.size) = some cs.size)
    (hd : a.defers = []) (hR : R (.returned (.agg cs)) w) : bodyPost Tryd.prog fn R .ret a w :=
  bodyPost_ret_by (results_cell_row (P := Tryd.prog) h _ w g t cs (0, 0) _ hp hg hu rfl hi) hd hR

/- the two tables -/
def FIRST : List Nat := [1779033703, 3144134277, 1013904242, 2773480762, 1359893119, 2600822924, 528734635, 1541459225]
def ROOTS : List Nat := [1116352408, 1899447441, 3049323471, 3921009573, 961987163, 1508970993, 2453635748, 2870763221, 3624381080, 310598401, 607225278, 1426881987, 1925078388, 2162078206, 2614888103, 3248222580, 3835390401, 4022224774, 264347078, 604807628, 770255983, 1249150122, 1555081692, 1996064986, 2554220882, 2821834349, 2952996808, 3210313671, 3336571891, 3584528711, 113926993, 338241895, 666307205, 773529912, 1294757372, 1396182291, 1695183700, 1986661051, 2177026350, 2456956037, 2730485921, 2820302411, 3259730800, 3345764771, 3516065817, 3600352804, 4094571909, 275423344, 430227734, 506948616, 659060556, 883997877, 958139571, 1322822218, 1537002063, 1747873779, 1955562222, 2024104815, 2227730452, 2361852424, 2428436474, 2756734187, 3204031479, 3329325298]

theorem FIRST_length : FIRST.length = 8 := rfl
theorem ROOTS_length : ROOTS.length = 64 := rfl
theorem FIRST_lt : Lt 4294967296 FIRST := by unfold Lt; decide
theorem ROOTS_lt : Lt 4294967296 ROOTS := by unfold Lt; decide

structure Laid (w : World) : Prop where
  first : ∀ i, i < 8 → w.cell? ⟨0, i, none⟩ = some (.int .u32 (at0 FIRST i : Nat))
  roots : ∀ i, i < 64 → w.cell? ⟨1, i, none⟩ = some (.int .u32 (at0 ROOTS i : Nat))

theorem Laid.two {w : World} (h : Laid w) : 2 ≤ w.heap.size := lt_cell (h.roots 0 (by omega))
theorem Laid.below {B : Nat} {w w' : World} (h : Laid w) (hb : Below B w w') (hB : 2 ≤ B) : Laid w' :=
  ⟨fun i hi => (hb.cell (p := ⟨0, i, none⟩) (by simp; omega)).trans (h.first i hi), fun i hi => (hb.cell (p := ⟨1, i, none⟩) (by simp; omega)).trans (h.roots i hi)⟩
theorem Laid.alloc {w : World} (h : Laid w) (o : Obj) : Laid (w.alloc o) := h.below ((Below.refl w.heap.size w).alloc (Nat.le_refl _) o) h.two
theorem Laid.drewN {w : World} (h : Laid w) (q : Nat) : Laid (w.drewN q) := ⟨h.first, h.roots⟩
theorem below_drewN' {B : Nat} {w w' : World} (h : Below B w w') (q : Nat) : Below B w (w'.drewN q) := ⟨h.1, h.2, h.3, h.4, h.5⟩
theorem Below.setRow' {B g : Nat} {w0 w : World} (hb : Below B w0 w) (hBg : B ≤ g) (cs : Array Value) : Below B w0 (w.setRow g cs) :=
  hb.trans ⟨rfl, rfl, rfl, by simp [World.setRow], fun k hk => setRow_other w g k cs (by omega)⟩

end Go.Proofs.YtlkkninnfiaedaaDoor.Sh
