/- The document's 'with': 64 bytes taken into eight words. -/
import Derived.Test.YtjcfllidandeiaaDoorM
import Derived.Test.YtjcfllidandeiaaDoorT
namespace Go.Proofs.YtjcfllidandeiaaDoor
open Go.RowKit
set_option maxRecDepth 100000
attribute [local go_sem] not_any

/- a list of words to be read -/
structure Rd (w : World) (v : Value) (l : List Nat) : Prop where
  val : ∃ g c, v = .slice (some ⟨g, 0, none⟩) l.length c ∧ g < w.heap.size ∧ ∀ j, j < l.length → w.cell? ⟨g, j, none⟩ = some (.int .u32 (at0 l j : Nat))

theorem Rd.below {w w' : World} {v : Value} {l : List Nat} (h : Rd w v l) (hb : Below w.heap.size w w') : Rd w' v l := by
  obtain ⟨g, c, e, hg, hc⟩ := h.val
  exact ⟨g, c, e, Nat.lt_of_lt_of_le hg hb.size, fun j hj => (hb.cell (p := ⟨g, j, none⟩) hg).trans (hc j hj)⟩

theorem rd_own {base : Nat} {w : World} {v : Value} {l : List Nat} (h : Own32 base w v l) (h0 : 0 < l.length) : Rd w v l := by
  rcases h.2 with ⟨_, h1⟩ | ⟨g, cap, cur, rfl, hg, hh, hn, _, hs, ht⟩
  · omega
  · refine ⟨g, cap, rfl, lt_heap hh, fun j hj => ?_⟩
    rw [cell_of_row w g j cur 30 (0, 0) hh]
    have e : (cur.toList.take (l.length * 1))[j]? = (u32s l)[j]? := by rw [ht]
    rw [List.getElem?_take_of_lt (by omega)] at e
    rw [← Array.getElem?_toList, e, u32s, List.getElem?_map, get_at0 hj]
    rfl

/- a text's byte -/
theorem run_index (s : ByteArray) (j : Nat) (h : j < s.size) (w : World) : (Instr.index 9 (.string s) (.int .i64 (j : Int))).run Tryd.prog w = .ok (.int .u8 (at0 (nums s) j : Nat)) w := by
  have e : at0 (nums s) j = (s[j]).toNat := by
    have h1 : (nums s)[j]? = some (s[j]).toNat := by
      rw [nums, List.getElem?_map]
      have : s.data.toList[j]? = some s[j] := by
        rw [Array.getElem?_toList]
        exact Array.getElem?_eq_getElem (show j < s.data.size from h)
      rw [this]
      rfl
    exact at0_get h1
  rw [e]
  go_simp

end Go.Proofs.YtjcfllidandeiaaDoor
