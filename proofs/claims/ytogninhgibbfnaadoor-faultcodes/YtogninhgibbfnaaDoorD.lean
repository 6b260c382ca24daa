/- An error in memory: what it tells, and what the small calls answer of it. -/
import Derived.Test.YtogninhgibbfnaaDoorS
import Derived.Test.YtogninhgibbfnaaDoorW
namespace Go.Proofs.YtogninhgibbfnaaDoor
open Go.RowKit Go.Shelf
set_option maxRecDepth 100000

theorem ta74_37 (v : Value) (w : World) : (Instr.typeAssert (.iface 37 v) 36 74 true).run Tryd.prog w = .ok (.tuple #[.pointer none, .bool false]) w := by kernel_rfl
theorem ta77_37 (v : Value) (w : World) : (Instr.typeAssert (.iface 37 v) 36 77 true).run Tryd.prog w = .ok (.tuple #[.pointer none, .bool false]) w := by kernel_rfl
theorem ta74_77 (v : Value) (w : World) : (Instr.typeAssert (.iface 77 v) 36 74 true).run Tryd.prog w = .ok (.tuple #[.pointer none, .bool false]) w := by kernel_rfl
theorem ta77_77 (v : Value) (w : World) : (Instr.typeAssert (.iface 77 v) 36 77 true).run Tryd.prog w = .ok (.tuple #[v, .bool true]) w := by kernel_rfl
theorem ta100_37 (v : Value) (w : World) : (Instr.typeAssert (.iface 37 v) 36 100 true).run Tryd.prog w = .ok (.tuple #[.nilIface, .bool false]) w := run_typeAssert_lacksB Tryd.underlying100 (by kernel_rfl) (by kernel_rfl) v 36 w
theorem ta103_37 (v : Value) (w : World) : (Instr.typeAssert (.iface 37 v) 36 103 true).run Tryd.prog w = .ok (.tuple #[.nilIface, .bool false]) w := run_typeAssert_lacksB Tryd.underlying103 (by kernel_rfl) (by kernel_rfl) v 36 w
theorem ta100_77 (v : Value) (w : World) : (Instr.typeAssert (.iface 77 v) 36 100 true).run Tryd.prog w = .ok (.tuple #[.iface 77 v, .bool true]) w := run_typeAssert_hasB Tryd.underlying100 (by kernel_rfl) v 36 w
theorem method_unwrap77 (a : Addr) (w : World) : (method 260 77 (.pointer (some a)) "Unwrap").run Tryd.prog w = .ok (96, .pointer (some a)) w := by kernel_rfl
theorem method_error37 (c : Int) (w : World) : (method 260 37 (.int .i64 c) "Error").run Tryd.prog w = .ok (44, .int .i64 c) w := by kernel_rfl
attribute [local go_sem] ta74_74 ta77_74 ta100_74 ta103_74 not_any mf_any method_unwrap ta74_37 ta77_37 ta74_77 ta77_77 ta100_37 ta103_37 ta100_77 method_unwrap77 method_error37

/- the word of a number -/
def errWord (c : Int) : ByteArray :=
  if c == 0 then ⟨#[111, 107]⟩ else if c == 10 then ⟨#[116, 97, 112, 101, 32, 101, 120, 104, 97, 117, 115, 116, 101, 100]⟩
  else if c == 11 then ⟨#[98, 97, 100, 32, 115, 104, 97, 112, 101]⟩ else if c == 20 then ⟨#[110, 111, 32, 101, 112, 111, 99, 104]⟩
  else if c == 33 then ⟨#[97, 98, 111, 114, 116, 101, 100]⟩ else if c == 40 then ⟨#[99, 108, 97, 115, 115, 32, 109, 105, 115, 109, 97, 116, 99, 104]⟩
  else if c == 41 then ⟨#[116, 105, 99, 107, 101, 116, 32, 116, 119, 105, 99, 101]⟩ else ⟨#[101, 114, 114, 111, 114]⟩

set_option maxHeartbeats 1000000 in
theorem errno_any (c : Int) (w : World) :
    Calls Tryd.prog 44 #[.int .i64 c] w fun e w' => e = .returned (.string (errWord c)) ∧ w' = w := by
  unfold errWord
  go_enter Tryd.func44, Tryd.ntmps44
  go_wp2
  all_goals
    go_ret
    simp [*]

structure Info where
  text : List UInt8
  codes : List Int
  path : List ByteArray
  place : ByteArray
  has : Bool
  size : Nat

def colon : List UInt8 := [58, 32]
def semi : List UInt8 := [59, 32]
def bytes (s : ByteArray) : List UInt8 := s.data.toList

/- the error e in memory, below n0, nested at most k deep, tells i -/
def IsErr (W : World) (n0 : Nat) : Nat → E → Info → Prop
  | 0, _, _ => False
  | k + 1, e, i =>
    (∃ c, e = (37, .int .i64 c) ∧ (c == 0) = false ∧ i = ⟨bytes (errWord c), [c], [], ⟨#[]⟩, false, 1⟩) ∨
    (∃ b c s, b < n0 ∧ e = (74, .pointer (some ⟨b, 0, none⟩)) ∧ W.heap[b]? = some (.cells #[.int .i64 c, .string s, .nilIface] 76 (0, 0)) ∧ (c == 0) = false ∧
      i = ⟨bytes s ++ colon ++ bytes (errWord c), [c], [s], s, true, 1⟩) ∨
    (∃ b s e1 i1, b < n0 ∧ e = (74, .pointer (some ⟨b, 0, none⟩)) ∧ W.heap[b]? = some (.cells #[.int .i64 0, .string s, ev e1] 76 (0, 0)) ∧ IsErr W n0 k e1 i1 ∧
      i = ⟨bytes s ++ colon ++ i1.text, i1.codes, s :: i1.path, s, true, i1.size + 1⟩) ∨
    (∃ b e1 e2 i1 i2, b < n0 ∧ e = (77, .pointer (some ⟨b, 0, none⟩)) ∧ W.heap[b]? = some (.cells #[ev e1, ev e2] 79 (0, 0)) ∧ IsErr W n0 k e1 i1 ∧ IsErr W n0 k e2 i2 ∧
      i = ⟨i1.text ++ semi ++ i2.text, i1.codes ++ i2.codes, [], if i1.has then i1.place else i2.place, i1.has || i2.has, i1.size + i2.size + 1⟩)

theorem IsErr.kept {W W' : World} {n0 : Nat} (h : ∀ b o, b < n0 → W.heap[b]? = some o → W'.heap[b]? = some o) : ∀ {k : Nat} {e : E} {i : Info}, IsErr W n0 k e i → IsErr W' n0 k e i
  | 0, _, _, he => he.elim
  | k + 1, e, i, he => by
    rcases he with h1 | ⟨b, c, s, hb, h1, h2, h3⟩ | ⟨b, s, e1, i1, hb, h1, h2, h3, h4⟩ | ⟨b, e1, e2, i1, i2, hb, h1, h2, h3, h4, h5⟩
    · exact .inl h1
    · exact .inr (.inl ⟨b, c, s, hb, h1, h b _ hb h2, h3⟩)
    · exact .inr (.inr (.inl ⟨b, s, e1, i1, hb, h1, h b _ hb h2, IsErr.kept h h3, h4⟩))
    · exact .inr (.inr (.inr ⟨b, e1, e2, i1, i2, hb, h1, h b _ hb h2, IsErr.kept h h3, IsErr.kept h h4, h5⟩))

theorem IsErr.size_pos {W : World} {n0 : Nat} : ∀ {k : Nat} {e : E} {i : Info}, IsErr W n0 k e i → 1 ≤ i.size
  | 0, _, _, he => he.elim
  | k + 1, e, i, he => by
    rcases he with ⟨c, _, _, rfl⟩ | ⟨b, c, s, _, _, _, _, rfl⟩ | ⟨b, s, e1, i1, _, _, _, _, rfl⟩ | ⟨b, e1, e2, i1, i2, _, _, _, _, _, rfl⟩ <;> simp

end Go.Proofs.YtogninhgibbfnaaDoor
