/- The document's own words of truths. -/
import Derived.Test.YtaghcbmipihpmaaR
namespace Go.Proofs.Ytaghcbmipihpmaa
open Go.RowKit
set_option maxRecDepth 100000
attribute [local go_sem] not_any mf_any

theorem info55 : (Try.prog.info? 37).map (fun i => (i.zero, i.size, i.bytes)) = some (some (.int .u64 0), 1, 8) := by kernel_rfl

theorem row_form {w : World} {base : Nat} {e : TypeId} {size n : Nat} {v : Value} {xs : List Value} (h : w.ownsRow base e size v n xs) : ∃ a c, v = .slice a n c := by
  rcases h.2 with ⟨h1, h2⟩ | ⟨g, cap, cur, h1, _⟩
  · exact ⟨none, 0, by rw [h1, h2]⟩
  · exact ⟨_, _, h1⟩

theorem row_some {w : World} {base : Nat} {e : TypeId} {size n : Nat} {v : Value} {xs : List Value} (h : w.ownsRow base e size v n xs) (hn : 0 < n) : ∃ g c, v = .slice (some ⟨g, 0, none⟩) n c ∧ base ≤ g ∧ g < w.heap.size := by
  rcases h.2 with ⟨h1, h2⟩ | ⟨g, cap, cur, h1, h2, h3, _⟩
  · omega
  · exact ⟨g, cap, h1, h2, lt_heap h3⟩

theorem own_nl {w : World} {base n : Nat} {a : Option Addr} {c : Nat} {ws : List Nat} (h : w.ownsRow base 37 1 (.slice a n c) n (u64s ws)) (hl : ws.length = n) : Nl w n a ws :=
  ⟨hl, fun j x hj => by
    have hjn : j < n := by rw [← hl]; exact (List.getElem?_eq_some_iff.1 hj).1
    obtain ⟨g, c', hv, _⟩ := row_some h (by omega)
    cases hv
    refine ⟨g, 0, rfl, ?_⟩
    rw [Nat.zero_add, h.cellAt j (by omega)]
    simp [u64s, hj]⟩

theorem u64s_snoc (ws : List Nat) : u64s ws ++ [.int .u64 0] = u64s (ws ++ [0]) := by simp [u64s]
theorem u64s_set (ws : List Nat) (j x : Nat) : (u64s ws).set j (.int .u64 (x : Int)) = u64s (ws.set j x) := by simp [u64s]

end Go.Proofs.Ytaghcbmipihpmaa
