/- An end of a link in memory: nine cells. An In in memory: Awaited, check. -/
import Derived.Test.YtcadlcpccemkbaaGreatDoorVb
namespace Go.Proofs.YtcadlcpccemkbaaGreatDoor
open Go.RowKit
set_option maxRecDepth 100000

/- the cells beside those of the In; beside those of the Out -/
structure IX where
  (c0 c1 c2 c3 c4 c5 c8 : Value)
structure OX where
  (c0 c1 c2 c3 c6 c7 c8 : Value)
theorem boxI {w : World} {g : Nat} {x0 x1 x2 x3 x4 x5 x6 x7 x8 : Value} {t : TypeId} (h : w.heap[g]? = some (.cells #[x0, x1, x2, x3, x4, x5, x6, x7, x8] t (0, 0))) : w.cell? ⟨g, 6, none⟩ = some x6 ∧ w.cell? ⟨g, 7, none⟩ = some x7 ∧ w.frozen? ⟨g, 6, none⟩ = false ∧ w.frozen? ⟨g, 7, none⟩ = false ∧ g < w.heap.size :=
  ⟨by rw [cell_of_row w g 6 _ _ _ h]; rfl, by rw [cell_of_row w g 7 _ _ _ h]; rfl, frozen_of_row w g 6 _ _ h, frozen_of_row w g 7 _ _ h, lt_heap h⟩
theorem boxO {w : World} {g : Nat} {x0 x1 x2 x3 x4 x5 x6 x7 x8 : Value} {t : TypeId} (h : w.heap[g]? = some (.cells #[x0, x1, x2, x3, x4, x5, x6, x7, x8] t (0, 0))) : w.cell? ⟨g, 4, none⟩ = some x4 ∧ w.cell? ⟨g, 5, none⟩ = some x5 ∧ w.frozen? ⟨g, 4, none⟩ = false ∧ w.frozen? ⟨g, 5, none⟩ = false ∧ g < w.heap.size :=
  ⟨by rw [cell_of_row w g 4 _ _ _ h]; rfl, by rw [cell_of_row w g 5 _ _ _ h]; rfl, frozen_of_row w g 4 _ _ h, frozen_of_row w g 5 _ _ h, lt_heap h⟩
/- the other cells -/
theorem boxS {w : World} {g : Nat} {x0 x1 x2 x3 x4 x5 x6 x7 x8 : Value} {t : TypeId} (h : w.heap[g]? = some (.cells #[x0, x1, x2, x3, x4, x5, x6, x7, x8] t (0, 0))) : w.cell? ⟨g, 0, none⟩ = some x0 ∧ w.cell? ⟨g, 1, none⟩ = some x1 ∧ w.cell? ⟨g, 2, none⟩ = some x2 ∧ w.cell? ⟨g, 3, none⟩ = some x3 ∧ w.cell? ⟨g, 8, none⟩ = some x8 :=
  ⟨by rw [cell_of_row w g 0 _ _ _ h]; rfl, by rw [cell_of_row w g 1 _ _ _ h]; rfl, by rw [cell_of_row w g 2 _ _ _ h]; rfl, by rw [cell_of_row w g 3 _ _ _ h]; rfl, by rw [cell_of_row w g 8 _ _ _ h]; rfl⟩

end Go.Proofs.YtcadlcpccemkbaaGreatDoor

namespace Go.Proofs.YtcadlcpccemkbaaGreatDoor
open Go.RowKit
set_option maxRecDepth 100000
attribute [local go_sem] not_any

structure Inm (Y : IX) (s : Nat) (m : Value) (a n : Nat) (f : Nat → Option ByteArray) (w : World) : Prop where
  row : w.heap[s]? = some (.cells #[Y.c0, Y.c1, Y.c2, Y.c3, Y.c4, Y.c5, .int .u32 (a : Int), m, Y.c8] 56 (0, 0))
  mp : Mp w m n f
  ne : mblk m ≠ some s
def Inf (s : Nat) (m : Value) (g : Nat) : Prop := g = s ∨ mblk m = some g
theorem Inm.kp {Y : IX} {F : Nat → Prop} {s a n : Nat} {m : Value} {f : Nat → Option ByteArray} {w w' : World} (h : Inm Y s m a n f w) (hk : Kp F w w') (hF : ∀ g, Inf s m g → ¬ F g) : Inm Y s m a n f w' :=
  ⟨(hk.block s (lt_heap h.row) (hF s (.inl rfl))).trans h.row, h.mp.kp hk fun b hb => hF b (.inr hb), h.ne⟩
theorem Inm.below {Y : IX} {s a n C : Nat} {m : Value} {f : Nat → Option ByteArray} {w w' : World} (h : Inm Y s m a n f w) (hb : Below C w w') (hC : w.heap.size ≤ C) : Inm Y s m a n f w' :=
  h.kp (F := fun _ => False) (Kp.ofBelow (hb.mono hC)) fun _ _ h => h
theorem Inm.flt {Y : IX} {s a n : Nat} {m : Value} {f : Nat → Option ByteArray} {w : World} (h : Inm Y s m a n f w) {g : Nat} (hg : Inf s m g) : g < w.heap.size := by
  rcases hg with rfl | hg
  · exact lt_heap h.row
  · exact h.mp.lt hg

theorem awaited_any {Y : IX} {s a n : Nat} {m : Value} {f : Nat → Option ByteArray} {w : World} (h : Inm Y s m a n f w) (ha : a + 1 < 4294967296) :
    Calls Tryz.prog 78 #[.pointer (some ⟨s, 6, none⟩)] w fun e w' => e = .returned (.int .u32 ((a + 1 : Nat) : Int)) ∧ w' = w := by
  obtain ⟨c0, c1, _, _, _⟩ := boxI h.row
  clear h
  go_enter Tryz.func78, Tryz.ntmps78
  go_wp2
  go_ret
  refine ⟨?_, rfl⟩
  go_num
/- what is wrong with a number that came -/
def chkC (a : Nat) (f : Nat → Option ByteArray) (q : Nat) : Nat := if q < a + 1 ∨ (f q).isSome then 21 else if 16 ≤ q - (a + 1) then 23 else 0

theorem check_any {Y : IX} {s a n : Nat} {m : Value} {f : Nat → Option ByteArray} {w : World} (h : Inm Y s m a n f w) (ha : a + 1 < 4294967296) (q : Nat) (hq : q < 4294967296) :
    Calls Tryz.prog 105 #[.pointer (some ⟨s, 6, none⟩), .int .u32 (q : Int)] w fun e w' => e = .returned (.int .i64 (chkC a f q)) ∧ Below w.heap.size w w' := by
  have kA := fun w' (hb : Below w.heap.size w w') => hide1 (awaited_any (h.below hb (Nat.le_refl _)) ha)
  have hlk := h.mp.look hq
  obtain ⟨c0, c1, _, _, _⟩ := boxI h.row
  obtain ⟨mb, rfl⟩ := h.mp.form
  have hb : Hid (∀ v, Below w.heap.size w (w.alloc v)) := fun v => below1 v
  obtain ⟨c, hc⟩ : ∃ c, chkC a f q = c := ⟨_, rfl⟩
  rw [hc]
  have HC := hide1 hc
  clear h hc
  cases hf : f q with
  | some t =>
    rw [hf] at hlk
    change _ = Result.ok (Value.tuple #[Value.agg #[.int .u32 (q : Int), .string t], .bool true]) w at hlk
    have hc : Hid (c = 21) := by unfold Hid; rw [← HC.out, chkC, if_pos (.inr (by rw [hf]; rfl))]
    clear hf
    go_enter Tryz.func105, Tryz.ntmps105
    go_wp2_with fail
    refine (kA _ (hb.out _)).out.mono ?_
    rintro e w1 ⟨rfl, hw1⟩
    obtain rfl := hw1.symm
    by_cases h1 : q < a + 1
    · have g1 : (q : Int) < ((a + 1 : Nat) : Int) := by omega
      go_wp2
      go_ret
      exact ⟨by rw [hc.out]; rfl, hb.out _⟩
    · have g1 : ¬ (q : Int) < ((a + 1 : Nat) : Int) := by omega
      go_wp2
      go_ret
      exact ⟨by rw [hc.out]; rfl, hb.out _⟩
  | none =>
    rw [hf] at hlk
    change _ = Result.ok (Value.tuple #[Value.agg #[.int .u32 0, .string ⟨#[]⟩], .bool false]) w at hlk
    have HF := hide1 hf
    clear hf
    go_enter Tryz.func105, Tryz.ntmps105
    go_wp2_with fail
    refine (kA _ (hb.out _)).out.mono ?_
    rintro e w1 ⟨rfl, hw1⟩
    obtain rfl := hw1.symm
    by_cases h1 : q < a + 1
    · have g1 : (q : Int) < ((a + 1 : Nat) : Int) := by omega
      go_wp2
      go_ret
      exact ⟨by rw [← HC.out, chkC, if_pos (.inl h1)]; rfl, hb.out _⟩
    · have g1 : ¬ (q : Int) < ((a + 1 : Nat) : Int) := by omega
      go_wp2_with fail
      refine (kA _ (hb.out _)).out.mono ?_
      rintro e w1 ⟨rfl, hw1⟩
      obtain rfl := hw1.symm
      by_cases h2 : 16 ≤ q - (a + 1)
      · have g2 : (16 : Int) ≤ (q : Int) - ((a + 1 : Nat) : Int) := by omega
        go_wp2
        go_ret
        exact ⟨by rw [← HC.out, chkC, if_neg (by rw [HF.out]; simp [h1]), if_pos h2]; rfl, hb.out _⟩
      · have g2 : ¬ (16 : Int) ≤ (q : Int) - ((a + 1 : Nat) : Int) := by omega
        go_wp2
        go_ret
        exact ⟨by rw [← HC.out, chkC, if_neg (by rw [HF.out]; simp [h1]), if_neg h2]; rfl, hb.out _⟩

end Go.Proofs.YtcadlcpccemkbaaGreatDoor
