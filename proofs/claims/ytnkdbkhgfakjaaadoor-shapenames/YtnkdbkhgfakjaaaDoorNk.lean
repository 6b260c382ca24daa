/- ShapeNames: the walk. -/
import Derived.Test.YtnkdbkhgfakjaaaDoorNi
import Derived.Test.YtnkdbkhgfakjaaaDoorNj
namespace Go.Proofs.YtnkdbkhgfakjaaaDoor
open Go.RowKit
set_option maxRecDepth 100000
attribute [local go_sem] not_any mf_any

theorem rparse_b (w : World) :
    Calls Tryd.prog 7 #[.string ⟨#[98]⟩] w fun e w' => e = .returned (.tuple #[Cl.v ⟨3, 1, 0, 0, 0⟩, .int .i64 0]) ∧ Below w.heap.size w w' := by
  simp only [Cl.v, cls]
  go_enter Tryd.func7, Tryd.ntmps7
  go_wp2
  exact ret_c2 Tryd.results7 w.heap.size _ _ _ _ _ _ rfl rfl (heap_alloc_new _ _) rfl ⟨rfl, below1 _⟩

set_option maxHeartbeats 2000000 in
theorem rparse_no (s : ByteArray) (w : World) (hnb : bs s ≠ [98]) (h115 : (bs s)[0]? ≠ some 115) (h109 : (bs s)[0]? ≠ some 109) (h100 : (bs s)[0]? ≠ some 100) :
    Calls Tryd.prog 7 #[.string s] w fun e w' => e = .returned (.tuple #[Cl.zero.v, .int .i64 13]) ∧ Below w.heap.size w w' := by
  have hb := isb_no hnb
  simp only [Cl.v, cls, Cl.zero]
  by_cases h0 : 0 < s.size
  · have hz := bs_at h0
    rw [hz] at h115 h109 h100
    have e1 : (((s[0]'h0).toNat : Int) == 115) = false := by simp; intro e; exact h115 (by congr 1; omega)
    have e2 : (((s[0]'h0).toNat : Int) == 109) = false := by simp; intro e; exact h109 (by congr 1; omega)
    have e3 : (((s[0]'h0).toNat : Int) == 100) = false := by simp; intro e; exact h100 (by congr 1; omega)
    have hz0 : (0 : Int) < (s.size : Int) := by omega
    clear h115 h109 h100 hz
    go_enter Tryd.func7, Tryd.ntmps7
    go_wp2
    exact ret_c2 Tryd.results7 w.heap.size _ _ _ _ _ _ rfl rfl (heap_alloc_new _ _) rfl ⟨rfl, below1 _⟩
  · have hz0 : ¬ (0 : Int) < (s.size : Int) := by omega
    clear h115 h109 h100
    go_enter Tryd.func7, Tryd.ntmps7
    go_wp2
    exact ret_c2 Tryd.results7 w.heap.size _ _ _ _ _ _ rfl rfl (heap_alloc_new _ _) rfl ⟨rfl, below1 _⟩

theorem parP_eq (l : List Nat) : parP l = parV (classP l).1 (classP l).2 := rfl
theorem rparse_any (s : ByteArray) (w : World) (hs : s.size ≤ 200) :
    Calls Tryd.prog 7 #[.string s] w fun e w' => e = .returned (.tuple #[(parP (bs s)).1.v, .int .i64 (parP (bs s)).2]) ∧ Below w.heap.size w w' := by
  rw [parP_eq]
  unfold classP
  by_cases h0 : bs s = [98]
  · rw [if_pos h0, isb_yes h0]
    exact rparse_b w
  rw [if_neg h0]
  have hpos : ∀ x, (bs s)[0]? = some x → ∃ h : 0 < s.size, (s[0]'h).toNat = x := fun x hx => by
    have h : 0 < s.size := by rw [← bs_length]; exact (List.getElem?_eq_some_iff.1 hx).1
    rw [bs_at h] at hx
    exact ⟨h, Option.some.inj hx⟩
  by_cases h1 : (bs s)[0]? = some 115
  · rw [if_pos h1]
    obtain ⟨hp, hx⟩ := hpos _ h1
    rw [← clsR_plain 1 (by decide)]
    exact rparse_1 s w hs hp hx
  rw [if_neg h1]
  by_cases h2 : (bs s)[0]? = some 109
  · rw [if_pos h2]
    obtain ⟨hp, hx⟩ := hpos _ h2
    rw [← clsR_mat]
    exact rparse_2 s w hs hp hx
  rw [if_neg h2]
  by_cases h3 : (bs s)[0]? = some 100
  · rw [if_pos h3]
    obtain ⟨hp, hx⟩ := hpos _ h3
    rw [← clsR_plain 4 (by decide)]
    exact rparse_4 s w hs hp hx
  rw [if_neg h3]
  exact rparse_no s w h0 h1 h2 h3

end Go.Proofs.YtnkdbkhgfakjaaaDoor
