/- What is kept but a set of blocks; lists of words; chunks, read and of the call's own. -/
import Derived.Test.YtgcbdjmlhjbacaaRows
import Derived.WalkKit
import Derived.WalkSpells
import Derived.WalkLawsBesides
import Derived.Deep.QuietTactic
import Derived.Deep.Onto
import Derived.Laws.OwnMore
import Derived.Deep.DeepAppendRoom
import Derived.Deep.AppendLies
import Derived.Laws.CopyOwn
namespace Go.Proofs.Ytgcbdjmlhjbacaa.St
open Go.RowKit
set_option maxRecDepth 100000

theorem hide1 {p : Prop} (h : p) : Hid p := h
theorem not_any (x : Bool) (w : World) : (Op.unary .not (.bool x)).run Try.prog w = .ok (.bool (!x)) w := rfl
theorem mixed : Try.prog.follows .mixedOrders = true := by kernel_rfl
structure Shy (p : Prop) : Prop where
  out : p
theorem lt_heap {w : World} {k : Nat} {o : Obj} (h : w.heap[k]? = some o) : k < w.heap.size := (Array.getElem?_eq_some_iff.1 h).1
theorem below1 {w : World} (o : Obj) : Below w.heap.size w (w.alloc o) := (Below.refl _ _).alloc (Nat.le_refl _) _
theorem size_alloc (w : World) (o : Obj) : (w.alloc o).heap.size = w.heap.size + 1 := by simp
theorem below_drewN {b : Nat} {w w' : World} (h : Below b w w') (q : Nat) : Below b w (w'.drewN q) := ⟨h.os, h.tape, h.output, h.size, h.block⟩
theorem lt_cell {w : World} {g o : Nat} {v : Value} (h : w.cell? ⟨g, o, none⟩ = some v) : g < w.heap.size := by
  rcases Nat.lt_or_ge g w.heap.size with h1 | h1
  · exact h1
  · simp [World.cell?, Array.getElem?_eq_none h1] at h

/- kept but a set of blocks -/
structure Kp (F : Nat → Prop) (w w' : World) : Prop where
  os : w'.os = w.os
  tape : w'.tape = w.tape
  output : w'.output = w.output
  size : w.heap.size ≤ w'.heap.size
  block : ∀ g, g < w.heap.size → ¬ F g → w'.heap[g]? = w.heap[g]?
theorem Kp.refl (F : Nat → Prop) (w : World) : Kp F w w := ⟨rfl, rfl, rfl, Nat.le_refl _, fun _ _ _ => rfl⟩
theorem Kp.trans {F : Nat → Prop} {a b c : World} (h : Kp F a b) (k : Kp F b c) : Kp F a c :=
  ⟨k.os.trans h.os, k.tape.trans h.tape, k.output.trans h.output, Nat.le_trans h.size k.size, fun g hg hf => (k.block g (by have := h.size; omega) hf).trans (h.block g hg hf)⟩
/- what comes later may also change what was new -/
theorem Kp.join {F G : Nat → Prop} {a b c : World} (h : Kp F a b) (k : Kp G b c) (hG : ∀ g, G g → F g ∨ a.heap.size ≤ g) : Kp F a c :=
  ⟨k.os.trans h.os, k.tape.trans h.tape, k.output.trans h.output, Nat.le_trans h.size k.size, fun g hg hf => (k.block g (by have := h.size; omega) (fun hg' => by
    rcases hG g hg' with h1 | h1
    · exact hf h1
    · omega)).trans (h.block g hg hf)⟩
theorem Kp.mono {F G : Nat → Prop} {w w' : World} (h : Kp F w w') (hF : ∀ g, F g → G g) : Kp G w w' := ⟨h.os, h.tape, h.output, h.size, fun g hg hf => h.block g hg (fun e => hf (hF g e))⟩
theorem Kp.ofBelow {F : Nat → Prop} {w w' : World} (h : Below w.heap.size w w') : Kp F w w' := ⟨h.os, h.tape, h.output, h.size, fun g hg _ => h.block g hg⟩
theorem Kp.ofGrown {w w' : World} {row : Option Nat} (h : w.grownBy w' row) : Kp (fun g => row = some g) w w' := ⟨h.os, h.tape, h.output, h.size, fun g hg hf => h.block g hg (fun e => hf e.symm)⟩
theorem Kp.below {F : Nat → Prop} {B : Nat} {w w' : World} (h : Kp F w w') (hB : B ≤ w.heap.size) (hF : ∀ g, F g → B ≤ g) : Below B w w' :=
  ⟨h.os, h.tape, h.output, h.size, fun g hg => h.block g (by omega) (fun e => by have := hF g e; omega)⟩
theorem Kp.setCell {F : Nat → Prop} (w : World) (t j : Nat) (v : Value) (hF : F t) : Kp F w (w.setCell ⟨t, j, none⟩ v) :=
  ⟨rfl, rfl, rfl, by simp [World.setCell], fun g _ hf => heap_setCell_other _ _ _ _ (fun e => hf (e ▸ hF))⟩

/- a list of the call's own, kept -/
theorem own_same {base e size n : Nat} {w w' : World} {v : Value} {xs : List Value} (ho : w.ownsRow base e size v n xs) (hs : ∀ g, v.ownBlock = some g → w'.heap[g]? = w.heap[g]?) : w'.ownsRow base e size v n xs := by
  refine ⟨ho.1, ?_⟩
  rcases ho.2 with h2 | ⟨g, cap, cur, rfl, hg, hh, r⟩
  · exact .inl h2
  · exact .inr ⟨g, cap, cur, rfl, hg, (hs g rfl).trans hh, r⟩
theorem own_below {base e size n : Nat} {w w' : World} {v : Value} {xs : List Value} (ho : w.ownsRow base e size v n xs) (hb : Below w.heap.size w w') : w'.ownsRow base e size v n xs := own_same ho fun g hg => hb.block g (ho.lt g hg).2
theorem own_kp {base e size n : Nat} {F : Nat → Prop} {w w' : World} {v : Value} {xs : List Value} (ho : w.ownsRow base e size v n xs) (hk : Kp F w w') (hF : ∀ g, v.ownBlock = some g → ¬ F g) : w'.ownsRow base e size v n xs := own_same ho fun g hg => hk.block g (ho.lt g hg).2 (hF g hg)
theorem own_form {w : World} {base n size : Nat} {e : TypeId} {v : Value} {xs : List Value} (h : w.ownsRow base e size v n xs) : ∃ a c, v = .slice a n c := by
  rcases h.2 with ⟨rfl, rfl⟩ | ⟨g, cap, cur, rfl, _⟩
  · exact ⟨none, 0, rfl⟩
  · exact ⟨_, _, rfl⟩
theorem own_some {w : World} {base n size : Nat} {e : TypeId} {v : Value} {xs : List Value} (h : w.ownsRow base e size v n xs) (hn : 0 < n) : ∃ g c, v = .slice (some ⟨g, 0, none⟩) n c ∧ base ≤ g := by
  rcases h.2 with ⟨rfl, rfl⟩ | ⟨g, cap, cur, rfl, hg, _⟩
  · omega
  · exact ⟨g, cap, rfl, hg⟩

/- a list of words that is read -/
def at0 (l : List Nat) (j : Nat) : Nat := (l[j]?).getD 0
def u64s (l : List Nat) : List Value := l.map fun (x : Nat) => Value.int .u64 (x : Int)
structure Nl (w : World) (n : Nat) (a : Option Addr) (l : List Nat) : Prop where
  len : l.length = n
  at' : ∀ (j x : Nat), l[j]? = some x → ∃ g o, a = some ⟨g, o, none⟩ ∧ w.cell? ⟨g, o + j, none⟩ = some (.int .u64 (x : Int))
theorem Nl.kp {F : Nat → Prop} {w w' : World} {n : Nat} {a : Option Addr} {l : List Nat} (h : Nl w n a l) (hk : Kp F w w') (hF : ∀ g o, a = some ⟨g, o, none⟩ → ¬ F g) : Nl w' n a l := ⟨h.len, fun j x hj => by
  obtain ⟨g, o, e, hc⟩ := h.at' j x hj
  refine ⟨g, o, e, ?_⟩
  have hb := hk.block g (lt_cell hc) (hF g o e)
  unfold World.cell? at hc ⊢
  rw [hb]
  exact hc⟩
theorem Nl.below {B : Nat} {w w' : World} {n : Nat} {a : Option Addr} {l : List Nat} (h : Nl w n a l) (hb : Below B w w') (hB : w.heap.size ≤ B) : Nl w' n a l := ⟨h.len, fun j x hj => by
  obtain ⟨g, o, e, hc⟩ := h.at' j x hj
  exact ⟨g, o, e, (hb.cell (p := ⟨g, o + j, none⟩) (by have := lt_cell hc; show g < B; omega)).trans hc⟩⟩
theorem nl_none (w : World) : Nl w 0 none [] := ⟨rfl, fun j x hj => by simp at hj⟩
theorem nl_own {w : World} {base n c : Nat} {a : Option Addr} {l : List Nat} (h : w.ownsRow base 44 1 (.slice a n c) n (u64s l)) : Nl w n a l := by
  have hl : l.length = n := by have := h.1; simpa [u64s] using this
  refine ⟨hl, fun j x hj => ?_⟩
  have hjn := (List.getElem?_eq_some_iff.1 hj).1
  obtain ⟨g, c', e, _⟩ := own_some h (by omega)
  cases e
  refine ⟨g, 0, rfl, ?_⟩
  rw [Nat.zero_add, h.cellAt j (by omega), u64s, List.getElem?_map, hj]
  rfl
theorem nl_val {w : World} {m k : Nat} {a : Option Addr} {l : List Nat} (h : Nl w m a l) (hk : k < m) : ∃ g o, a = some ⟨g, o, none⟩ ∧ w.cell? ⟨g, o + k, none⟩ = some (.int .u64 (at0 l k : Nat)) := by
  have hl : k < l.length := by rw [h.len]; exact hk
  obtain ⟨g, o, e, hc⟩ := h.at' k _ (List.getElem?_eq_getElem hl)
  refine ⟨g, o, e, hc.trans ?_⟩
  rw [at0, List.getElem?_eq_getElem hl]
  rfl

/- chunks -/
structure Chk where
  fr : Nat
  ct : Int
  sk : Int
def Chk.cells (c : Chk) : List Value := [.int .u64 (c.fr : Int), .int .i64 c.ct, .int .i64 c.sk]
def Chk.val (c : Chk) : Value := .agg #[.int .u64 (c.fr : Int), .int .i64 c.ct, .int .i64 c.sk]
def chks (l : List Chk) : List Value := l.flatMap Chk.cells
theorem chks_length (l : List Chk) : (chks l).length = l.length * 3 := by
  induction l with
  | nil => rfl
  | cons c l ih => rw [chks, List.flatMap_cons, List.length_append, ← chks, ih]; show 3 + l.length * 3 = (l.length + 1) * 3; omega
theorem chks_append (l m : List Chk) : chks (l ++ m) = chks l ++ chks m := List.flatMap_append
theorem chks_one (c : Chk) : chks [c] = c.cells := by simp [chks]
theorem chks_get {l : List Chk} {j : Nat} {c : Chk} (hj : l[j]? = some c) {k : Nat} (hk : k < 3) : (chks l)[j * 3 + k]? = c.cells[k]? := by
  induction l generalizing j with
  | nil => simp at hj
  | cons d l ih =>
    rw [chks, List.flatMap_cons, ← chks]
    cases j with
    | zero =>
      obtain rfl : d = c := by simpa using hj
      rw [Nat.zero_mul, Nat.zero_add, List.getElem?_append_left (by show k < 3; exact hk)]
    | succ j =>
      rw [List.getElem?_append_right (by show 3 ≤ (j + 1) * 3 + k; omega), show (j + 1) * 3 + k - d.cells.length = j * 3 + k by show (j + 1) * 3 + k - 3 = _; omega]
      exact ih (by simpa using hj)
theorem cells_one (c : Chk) : ∀ v ∈ c.cells, v.oneCell' = true := by
  intro v hv
  simp only [Chk.cells, List.mem_cons, List.not_mem_nil, or_false] at hv
  rcases hv with rfl | rfl | rfl <;> rfl
/- a list of chunks that is read -/
structure Cl (w : World) (n : Nat) (a : Option Addr) (l : List Chk) : Prop where
  len : l.length = n
  at' : ∀ (j : Nat) (c : Chk), l[j]? = some c → ∃ g o, a = some ⟨g, o, none⟩ ∧ w.cell? ⟨g, o + j * 3, none⟩ = some (.int .u64 (c.fr : Int)) ∧ w.cell? ⟨g, o + j * 3 + 1, none⟩ = some (.int .i64 c.ct) ∧ w.cell? ⟨g, o + j * 3 + 2, none⟩ = some (.int .i64 c.sk)
theorem Cl.below {B : Nat} {w w' : World} {n : Nat} {a : Option Addr} {l : List Chk} (h : Cl w n a l) (hb : Below B w w') (hB : w.heap.size ≤ B) : Cl w' n a l := ⟨h.len, fun j c hj => by
  obtain ⟨g, o, e, h0, h1, h2⟩ := h.at' j c hj
  have hg : g < B := by have := lt_cell h0; omega
  exact ⟨g, o, e, (hb.cell (p := ⟨g, _, none⟩) hg).trans h0, (hb.cell (p := ⟨g, _, none⟩) hg).trans h1, (hb.cell (p := ⟨g, _, none⟩) hg).trans h2⟩⟩
theorem Cl.kp {F : Nat → Prop} {w w' : World} {n : Nat} {a : Option Addr} {l : List Chk} (h : Cl w n a l) (hk : Kp F w w') (hF : ∀ g o, a = some ⟨g, o, none⟩ → ¬ F g) : Cl w' n a l := ⟨h.len, fun j c hj => by
  obtain ⟨g, o, e, h0, h1, h2⟩ := h.at' j c hj
  have hb := hk.block g (lt_cell h0) (hF g o e)
  refine ⟨g, o, e, ?_, ?_, ?_⟩
  · unfold World.cell? at h0 ⊢; rw [hb]; exact h0
  · unfold World.cell? at h1 ⊢; rw [hb]; exact h1
  · unfold World.cell? at h2 ⊢; rw [hb]; exact h2⟩
theorem cl_none (w : World) : Cl w 0 none [] := ⟨rfl, fun j x hj => by simp at hj⟩
theorem cl_own {w : World} {base n c : Nat} {e : TypeId} {a : Option Addr} {l : List Chk} (h : w.ownsRow base e 3 (.slice a n c) n (chks l)) : Cl w n a l := by
  have hl : l.length = n := by have := h.1; rw [chks_length] at this; omega
  refine ⟨hl, fun j x hj => ?_⟩
  have hjn := (List.getElem?_eq_some_iff.1 hj).1
  obtain ⟨g, c', e, _⟩ := own_some h (by omega)
  cases e
  refine ⟨g, 0, rfl, ?_, ?_, ?_⟩
  · rw [Nat.zero_add, h.cellAt _ (by omega), show j * 3 = j * 3 + 0 from rfl, chks_get hj (by omega)]; rfl
  · rw [Nat.zero_add, h.cellAt _ (by omega), chks_get hj (by omega)]; rfl
  · rw [Nat.zero_add, h.cellAt _ (by omega), chks_get hj (by omega)]; rfl
end Go.Proofs.Ytgcbdjmlhjbacaa.St
