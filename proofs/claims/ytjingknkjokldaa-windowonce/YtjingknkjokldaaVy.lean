/- Arguments in memory: calls, byte strings, bytes, truths. -/
import Derived.Test.YtjingknkjokldaaVx
namespace Go.Proofs.Ytjingknkjokldaa
open Go.RowKit

theorem block_lt_of_cell {w : World} {a : Addr} {v : Value} (h : w.cell? a = some v) : a.block < w.heap.size := World.block_lt_of_cell? w a h
structure A3 (w : World) (g o : Nat) (kd : Int) (q : Nat) (s : ByteArray) : Prop where
  c0 : w.cell? ⟨g, o, none⟩ = some (.int .i64 kd)
  c1 : w.cell? ⟨g, o + 1, none⟩ = some (.int .u32 (q : Int))
  c2 : w.cell? ⟨g, o + 2, none⟩ = some (.string s)
def Ac (w : World) (m : Nat) (a : Option Addr) : Prop := ∀ j, j < m → ∃ g o kd q s, a = some ⟨g, o, none⟩ ∧ q < 4294967296 ∧ s.size ≤ 281474976710656 ∧ A3 w g (o + j * 3) kd q s
theorem A3.same {w w' : World} {g o : Nat} {kd : Int} {q : Nat} {s : ByteArray} (h : A3 w g o kd q s) (hs : w'.heap[g]? = w.heap[g]?) : A3 w' g o kd q s :=
  ⟨(World.cell?_of_block (a := ⟨g, _, none⟩) hs).trans h.c0, (World.cell?_of_block (a := ⟨g, _, none⟩) hs).trans h.c1, (World.cell?_of_block (a := ⟨g, _, none⟩) hs).trans h.c2⟩
theorem Ac.next {w w' : World} {m : Nat} {a : Option Addr} (h : Ac w m a) (hb : Below w.heap.size w w') : Ac w' m a := fun j hj => by
  obtain ⟨g, o, kd, q, s, e, hq, hs, h3⟩ := h j hj
  exact ⟨g, o, kd, q, s, e, hq, hs, h3.same (hb.block g (block_lt_of_cell h3.c0))⟩
/- bytes, truths -/
def Bys (w : World) (m : Nat) (a : Option Addr) : Prop := ∀ j, j < m → ∃ g o x, a = some ⟨g, o, none⟩ ∧ x < 256 ∧ w.cell? ⟨g, o + j, none⟩ = some (.int .u8 ((x : Nat) : Int))
def Tru (w : World) (m : Nat) (a : Option Addr) : Prop := ∀ j, j < m → ∃ g o x, a = some ⟨g, o, none⟩ ∧ w.cell? ⟨g, o + j, none⟩ = some (.bool x)
theorem Bys.next {w w' : World} {m : Nat} {a : Option Addr} (h : Bys w m a) (hb : Below w.heap.size w w') : Bys w' m a := fun j hj => by
  obtain ⟨g, o, x, e, hx, h1⟩ := h j hj
  exact ⟨g, o, x, e, hx, (World.cell?_of_block (a := ⟨g, _, none⟩) (hb.block g (block_lt_of_cell h1))).trans h1⟩
theorem Tru.next {w w' : World} {m : Nat} {a : Option Addr} (h : Tru w m a) (hb : Below w.heap.size w w') : Tru w' m a := fun j hj => by
  obtain ⟨g, o, x, e, h1⟩ := h j hj
  exact ⟨g, o, x, e, (World.cell?_of_block (a := ⟨g, _, none⟩) (hb.block g (block_lt_of_cell h1))).trans h1⟩

end Go.Proofs.Ytjingknkjokldaa
