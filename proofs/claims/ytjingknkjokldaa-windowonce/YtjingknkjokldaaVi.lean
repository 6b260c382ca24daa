/- An In in memory: Awaited, check. -/
import Derived.Test.YtjingknkjokldaaVb
namespace Go.Proofs.Ytjingknkjokldaa
open Go.RowKit
set_option maxRecDepth 100000
attribute [local go_sem] not_any

structure Inm (s : Nat) (m : Value) (a n : Nat) (f : Nat → Option ByteArray) (w : World) : Prop where
  row : w.heap[s]? = some (.cells #[.int .u32 (a : Int), m] 51 (0, 0))
  mp : Mp w m n f
  ne : mblk m ≠ some s
def Inf (s : Nat) (m : Value) (g : Nat) : Prop := g = s ∨ mblk m = some g
theorem Inm.kp {F : Nat → Prop} {s a n : Nat} {m : Value} {f : Nat → Option ByteArray} {w w' : World} (h : Inm s m a n f w) (hk : Kp F w w') (hF : ∀ g, Inf s m g → ¬ F g) : Inm s m a n f w' :=
  ⟨(hk.block s (lt_heap h.row) (hF s (.inl rfl))).trans h.row, h.mp.kp hk fun b hb => hF b (.inr hb), h.ne⟩
theorem Inm.below {s a n C : Nat} {m : Value} {f : Nat → Option ByteArray} {w w' : World} (h : Inm s m a n f w) (hb : Below C w w') (hC : w.heap.size ≤ C) : Inm s m a n f w' :=
  h.kp (F := fun _ => False) (Kp.ofBelow (hb.mono hC)) fun _ _ h => h
theorem Inm.flt {s a n : Nat} {m : Value} {f : Nat → Option ByteArray} {w : World} (h : Inm s m a n f w) {g : Nat} (hg : Inf s m g) : g < w.heap.size := by
  rcases hg with rfl | hg
  · exact lt_heap h.row
  · exact h.mp.lt hg

theorem awaited_any {s a n : Nat} {m : Value} {f : Nat → Option ByteArray} {w : World} (h : Inm s m a n f w) (ha : a + 1 < 4294967296) :
    Calls Try.prog 23 #[.pointer (some ⟨s, 0, none⟩)] w fun e w' => e = .returned (.int .u32 ((a + 1 : Nat) : Int)) ∧ w' = w := by
  obtain ⟨c0, c1, _, _, _⟩ := box2 h.row
  clear h
  go_enter Try.func23, Try.ntmps23
  go_wp2
  go_ret
  refine ⟨?_, rfl⟩
  go_num
theorem awaited_nil (w : World) : Calls Try.prog 23 #[.pointer none] w fun e w' => e = .returned (.int .u32 0) ∧ w' = w := by
  go_enter Try.func23, Try.ntmps23
  go_wp2
  go_ret
  exact ⟨rfl, rfl⟩

/- what is wrong with a number that came -/
def chkC (a : Nat) (f : Nat → Option ByteArray) (q : Nat) : Nat := if q < a + 1 ∨ (f q).isSome then 21 else if 16 ≤ q - (a + 1) then 23 else 0

theorem check_nil (q : Nat) (w : World) : Calls Try.prog 28 #[.pointer none, .int .u32 (q : Int)] w fun e w' => e = .returned (.int .i64 3) ∧ w' = w := by
  go_enter Try.func28, Try.ntmps28
  go_wp2
  go_ret
  exact ⟨rfl, rfl⟩

theorem check_any {s a n : Nat} {m : Value} {f : Nat → Option ByteArray} {w : World} (h : Inm s m a n f w) (ha : a + 1 < 4294967296) (q : Nat) (hq : q < 4294967296) :
    Calls Try.prog 28 #[.pointer (some ⟨s, 0, none⟩), .int .u32 (q : Int)] w fun e w' => e = .returned (.int .i64 (chkC a f q)) ∧ Below w.heap.size w w' := by
  have kA := fun w' (hb : Below w.heap.size w w') => hide1 (awaited_any (h.below hb (Nat.le_refl _)) ha)
  have hlk := h.mp.look hq
  obtain ⟨c0, c1, _, _, _⟩ := box2 h.row
  obtain ⟨mb, rfl⟩ := h.mp.form
  have hb : Hid (∀ v, Below w.heap.size w (w.alloc v)) := fun v => below1 v
  obtain ⟨c, hc⟩ : ∃ c, chkC a f q = c := ⟨_, rfl⟩
  rw [hc]
  have HC := hide1 hc
  clear h hc
  cases hf : f q with
  | some t =>
    rw [hf] at hlk
    change _ = Result.ok (Value.tuple #[Value.agg #[.int .u32 (q : Int), .string t], .bool true]) w at hlk
    have hc : Hid (c = 21) := by unfold Hid; rw [← HC.out, chkC, if_pos (.inr (by rw [hf]; rfl))]
    clear hf
    go_enter Try.func28, Try.ntmps28
    go_wp2_with fail
    refine (kA _ (hb.out _)).out.mono ?_
    rintro e w1 ⟨rfl, hw1⟩
    obtain rfl := hw1.symm
    by_cases h1 : q < a + 1
    · have g1 : (q : Int) < ((a + 1 : Nat) : Int) := by omega
      go_wp2
      go_ret
      exact ⟨by rw [hc.out]; rfl, hb.out _⟩
    · have g1 : ¬ (q : Int) < ((a + 1 : Nat) : Int) := by omega
      go_wp2
      go_ret
      exact ⟨by rw [hc.out]; rfl, hb.out _⟩
  | none =>
    rw [hf] at hlk
    change _ = Result.ok (Value.tuple #[Value.agg #[.int .u32 0, .string ⟨#[]⟩], .bool false]) w at hlk
    have HF := hide1 hf
    clear hf
    go_enter Try.func28, Try.ntmps28
    go_wp2_with fail
    refine (kA _ (hb.out _)).out.mono ?_
    rintro e w1 ⟨rfl, hw1⟩
    obtain rfl := hw1.symm
    by_cases h1 : q < a + 1
    · have g1 : (q : Int) < ((a + 1 : Nat) : Int) := by omega
      go_wp2
      go_ret
      exact ⟨by rw [← HC.out, chkC, if_pos (.inl h1)]; rfl, hb.out _⟩
    · have g1 : ¬ (q : Int) < ((a + 1 : Nat) : Int) := by omega
      go_wp2_with fail
      refine (kA _ (hb.out _)).out.mono ?_
      rintro e w1 ⟨rfl, hw1⟩
      obtain rfl := hw1.symm
      by_cases h2 : 16 ≤ q - (a + 1)
      · have g2 : (16 : Int) ≤ (q : Int) - ((a + 1 : Nat) : Int) := by omega
        go_wp2
        go_ret
        exact ⟨by rw [← HC.out, chkC, if_neg (by rw [HF.out]; simp [h1]), if_pos h2]; rfl, hb.out _⟩
      · have g2 : ¬ (16 : Int) ≤ (q : Int) - ((a + 1 : Nat) : Int) := by omega
        go_wp2
        go_ret
        exact ⟨by rw [← HC.out, chkC, if_neg (by rw [HF.out]; simp [h1]), if_neg h2]; rfl, hb.out _⟩

end Go.Proofs.Ytjingknkjokldaa
