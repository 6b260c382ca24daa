/- The class that a word is. -/
import Derived.Test.YtnkdbkhgfakjaaaDoorKg
namespace Go.Proofs.YtnkdbkhgfakjaaaDoor
open Go.RowKit
set_option maxRecDepth 100000
attribute [local go_sem] not_any mf_any

set_option maxHeartbeats 1000000 in
theorem cutPrefix_yes (s : ByteArray) (c : UInt8) (w : World) (h : (bs s)[0]? = some c.toNat) :
    Calls Tryd.prog 21 #[.string s, .string ⟨#[c]⟩] w fun e w' => e = .returned (.tuple #[.string (s.extract 1 s.size), .bool true]) ∧ w' = w := by
  have h1 : 1 ≤ s.size := by rw [← bs_length]; exact (List.getElem?_eq_some_iff.1 h).1
  have hx : (((s.extract 0 1).toList == [c]) = true) := by
    rw [Lib.toList_data, beq_iff_eq]
    have e : bs (s.extract 0 1) = bs ⟨#[c]⟩ := by
      rw [bs_first]
      cases hb : bs s with
      | nil => rw [hb] at h; simp at h
      | cons x l => rw [hb] at h; simp at h; subst h; rfl
    rw [bs_inj e]
  have h1' : ¬ ((s.size : Int) < 1) := by omega
  go_enter Tryd.func21, Tryd.ntmps21
  go_wp2
  go_ret2
  exact ⟨rfl, rfl⟩

set_option maxHeartbeats 1000000 in
theorem cutPrefix_no (s : ByteArray) (c : UInt8) (w : World) (h : (bs s)[0]? ≠ some c.toNat) :
    Calls Tryd.prog 21 #[.string s, .string ⟨#[c]⟩] w fun e w' => e = .returned (.tuple #[.string s, .bool false]) ∧ w' = w := by
  have hx : (((s.extract 0 1).toList == [c]) = false) := by
    rw [Lib.toList_data, beq_eq_false_iff_ne]
    intro e
    have e : bs (s.extract 0 1) = [c.toNat] := by rw [bs, e]; rfl
    rw [bs_first] at e
    cases hb : bs s with
    | nil => rw [hb] at e; simp at e
    | cons x l => rw [hb] at h e; simp at h e; exact h e
  go_enter Tryd.func21, Tryd.ntmps21
  go_wp2
  all_goals
    go_ret2
    exact ⟨rfl, rfl⟩

end Go.Proofs.YtnkdbkhgfakjaaaDoor
