/- Four bytes of a text as a word: word, and the document's. -/
import Derived.Test.YtpigbhmamaghgaaPgT
import Derived.Laws.Strings2
namespace Go.Proofs.Ytpigbhmamaghgaa.Pg
open Go.RowKit
set_option maxRecDepth 100000
attribute [local go_sem] not_any

def le4 (a b c d : Nat) : Nat := a + b * 256 + c * 65536 + d * 16777216
def leW (l : List Nat) (i : Nat) : Nat := le4 (at0 l i) (at0 l (i + 1)) (at0 l (i + 2)) (at0 l (i + 3))
theorem leW_lt {l : List Nat} (h : Lt 256 l) (i : Nat) : leW l i < 4294967296 := by
  have h0 := h.at (by omega) i
  have h1 := h.at (by omega) (i + 1)
  have h2 := h.at (by omega) (i + 2)
  have h3 := h.at (by omega) (i + 3)
  unfold leW le4
  omega
theorem leW_drop (l : List Nat) (p i : Nat) : leW (l.drop p) i = leW l (p + i) := by
  simp [leW, at0_drop, Nat.add_assoc]
theorem leW_take {l : List Nat} {n i : Nat} (h : i + 3 < n) : leW (l.take n) i = leW l i := by
  unfold leW
  rw [at0_take (by omega), at0_take (by omega), at0_take (by omega), at0_take h]

theorem or4 {x0 x1 x2 x3 : Nat} (h0 : x0 < 256) (h1 : x1 < 256) (h2 : x2 < 256) (h3 : x3 < 256) :
    bits .or .u32 (bits .or .u32 (bits .or .u32 (x0 : Int) ((x1 : Int) * 256)) ((x2 : Int) * 65536)) ((x3 : Int) * 16777216) = (le4 x0 x1 x2 x3 : Nat) := by
  rw [u32_or8 (x0 : Int) ((x1 : Int) * 256) (by omega) (by omega) (by omega) (by omega) (by omega), u32_or16 ((x0 : Int) + (x1 : Int) * 256) ((x2 : Int) * 65536) (by omega) (by omega) (by omega) (by omega) (by omega), u32_or24 ((x0 : Int) + (x1 : Int) * 256 + (x2 : Int) * 65536) ((x3 : Int) * 16777216) (by omega) (by omega) (by omega) (by omega) (by omega)]
  unfold le4
  omega

theorem word_any (s : ByteArray) (w : World) (h : 4 ≤ s.size) :
    Calls Try.prog 43 #[.string s] w fun e w' => e = .returned (.int .u32 (leW (nums s) 0 : Nat)) ∧ ∃ q, w' = w.drewN q := by
  have i0 : ∀ w, (Instr.index 9 (.string s) (.int .i64 0)).run Try.prog w = _ := run_index s 0 (by omega)
  have i1 : ∀ w, (Instr.index 9 (.string s) (.int .i64 1)).run Try.prog w = _ := run_index s 1 (by omega)
  have i2 : ∀ w, (Instr.index 9 (.string s) (.int .i64 2)).run Try.prog w = _ := run_index s 2 (by omega)
  have i3 : ∀ w, (Instr.index 9 (.string s) (.int .i64 3)).run Try.prog w = _ := run_index s 3 (by omega)
  have b0 := (nums_lt s).at (by omega) 0
  have b1 := (nums_lt s).at (by omega) 1
  have b2 := (nums_lt s).at (by omega) 2
  have b3 := (nums_lt s).at (by omega) 3
  have HW : Shy (leW (nums s) 0 = le4 (at0 (nums s) 0) (at0 (nums s) 1) (at0 (nums s) 2) (at0 (nums s) 3)) := ⟨rfl⟩
  generalize at0 (nums s) 0 = x0 at *
  generalize at0 (nums s) 1 = x1 at *
  generalize at0 (nums s) 2 = x2 at *
  generalize at0 (nums s) 3 = x3 at *
  clear h
  go_enter Try.func43, Try.ntmps43
  go_wp2
  go_quiet (fail)
  go_wp2
  go_ret
  exact ⟨ret_int (by rw [HW.out]; exact or4 b0 b1 b2 b3), nq, rfl⟩

theorem rword_any (s : ByteArray) (w : World) (h : 4 ≤ s.size) :
    Calls Try.prog 36 #[.string s] w fun e w' => e = .returned (.int .u32 (leW (nums s) 0 : Nat)) ∧ ∃ q, w' = w.drewN q := by
  have i0 : ∀ w, (Instr.index 9 (.string s) (.int .i64 0)).run Try.prog w = _ := run_index s 0 (by omega)
  have i1 : ∀ w, (Instr.index 9 (.string s) (.int .i64 1)).run Try.prog w = _ := run_index s 1 (by omega)
  have i2 : ∀ w, (Instr.index 9 (.string s) (.int .i64 2)).run Try.prog w = _ := run_index s 2 (by omega)
  have i3 : ∀ w, (Instr.index 9 (.string s) (.int .i64 3)).run Try.prog w = _ := run_index s 3 (by omega)
  have b0 := (nums_lt s).at (by omega) 0
  have b1 := (nums_lt s).at (by omega) 1
  have b2 := (nums_lt s).at (by omega) 2
  have b3 := (nums_lt s).at (by omega) 3
  have HW : Shy (leW (nums s) 0 = le4 (at0 (nums s) 0) (at0 (nums s) 1) (at0 (nums s) 2) (at0 (nums s) 3)) := ⟨rfl⟩
  generalize at0 (nums s) 0 = x0 at *
  generalize at0 (nums s) 1 = x1 at *
  generalize at0 (nums s) 2 = x2 at *
  generalize at0 (nums s) 3 = x3 at *
  clear h
  go_enter Try.func36, Try.ntmps36
  go_wp2
  go_quiet (fail)
  go_wp2
  go_ret
  refine ⟨ret_int ?_, nq, rfl⟩
  rw [HW.out]
  unfold le4
  omega

theorem run_cut (s : ByteArray) (p q : Nat) (h1 : p ≤ q) (h2 : q ≤ s.size) (w : World) : (Instr.slice 9 (.string s) (some (.int .i64 (p : Int))) (some (.int .i64 (q : Int))) none).run Try.prog w = .ok (.string (s.extract p q)) w := by
  have := run_slice_string (P := Try.prog) w 9 s .i64 .i64 (p : Int) (q : Int) Try.underlying9 (by omega) (by omega) (by omega)
  simpa using this
theorem run_from (s : ByteArray) (p : Nat) (h2 : p ≤ s.size) (w : World) : (Instr.slice 9 (.string s) (some (.int .i64 (p : Int))) none none).run Try.prog w = .ok (.string (s.extract p s.size)) w := by
  have := Try.underlying9
  go_simp
end Go.Proofs.Ytpigbhmamaghgaa.Pg
