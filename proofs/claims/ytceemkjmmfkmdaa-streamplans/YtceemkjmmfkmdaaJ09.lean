/- The program's Counter. -/
import Derived.Test.YtceemkjmmfkmdaaJ05
namespace Go.Proofs.Ytceemkjmmfkmdaa.St
open Go.RowKit
set_option maxRecDepth 100000
attribute [local go_sem] not_any

/- a counter that has given the numbers below k -/
def Ctr (w : World) (g k : Nat) : Prop := w.heap[g]? = some (.cells #[.int .u64 (k : Int)] 37 (0, 0))
def cntC (k : Nat) (n : Int) : Int := if n < 0 ∨ 4096 < n then 2 else if 67108864 < (k : Int) + n then 24 else 0
def cntK (k : Nat) (n : Int) : Nat := if cntC k n = 0 then k + n.toNat else k
def cntF (k : Nat) (n : Int) : Nat := if cntC k n = 0 then k else 0
theorem cell1 {w : World} {g : Nat} {t : TypeId} {x : Value} (h : w.heap[g]? = some (.cells #[x] t (0, 0))) : w.cell? ⟨g, 0, none⟩ = some x ∧ w.frozen? ⟨g, 0, none⟩ = false := ⟨by rw [cell_of_row w g 0 _ _ _ h]; rfl, frozen_of_row w g 0 _ _ h⟩
theorem set_box1 {w : World} {g : Nat} {x x' : Value} {t : TypeId} (h : w.heap[g]? = some (.cells #[x] t (0, 0))) : (w.setCell ⟨g, 0, none⟩ x').heap[g]? = some (.cells #[x'] t (0, 0)) := by
  rw [heap_setCell_same w g 0 _ _ _ h]
  rfl

theorem cntC_plan (k : Nat) (n : Int) : cntC k n = planC k n := rfl
set_option maxHeartbeats 2000000 in
theorem reserve_any (k g : Nat) (n : Int) (w : World) (h : Ctr w g k) (hk : k ≤ 67108864) :
    Calls Try.prog 12 #[.pointer (some ⟨g, 0, none⟩), .int .i64 n] w fun e w' => e = .returned (.tuple #[.int .u64 (cntF k n : Nat), .int .i64 (cntC k n)]) ∧ Ctr w' g (cntK k n) ∧ Kp (fun b => b = g) w w' := by
  have kN := fun w => hide1 (numbered_any k n w)
  rw [← cntC_plan] at kN
  obtain ⟨c0, f0⟩ := cell1 h
  have H := hide1 h
  by_cases hc : cntC k n = 0
  · obtain ⟨m, rfl, hm1, hm2⟩ := planC_good ((cntC_plan k n).symm.trans hc)
    rw [show cntF k (m : Int) = k from if_pos hc, show cntK k (m : Int) = k + (m : Int).toNat from if_pos hc, hc, Int.toNat_natCast]
    rw [hc] at kN
    have e1 : IntKind.u64.wrap (m : Int) = (m : Int) := by rw [IntKind.wrap_u64]; omega
    have e3 : IntKind.u64.wrap ((k : Int) + (m : Int)) = ((k + m : Nat) : Int) := by rw [← Int.natCast_add, IntKind.wrap_u64]; omega
    obtain ⟨K, hK⟩ : ∃ K, K = k + m := ⟨_, rfl⟩
    rw [← hK] at e3 ⊢
    clear h hk hK hc hm1 hm2
    go_enter Try.func12, Try.ntmps12
    go_wp2_with fail
    go_at_call 22
    refine (kN _).out.mono ?_
    rintro e w1 ⟨rfl, he⟩
    obtain rfl := he.symm
    clear kN
    go_wp2
    go_ret2
    exact ⟨rfl, set_box1 H.out, Kp.setCell _ _ _ _ rfl⟩
  · rw [show cntF k n = 0 from if_neg hc, show cntK k n = k from if_neg hc]
    obtain ⟨C, hC⟩ : ∃ C, C = cntC k n := ⟨_, rfl⟩
    rw [← hC] at kN hc ⊢
    have q0 : (C != 0) = true := by rw [bne_iff_ne]; exact hc
    clear h hk hC hc
    go_enter Try.func12, Try.ntmps12
    go_wp2_with fail
    go_at_call 22
    refine (kN _).out.mono ?_
    rintro e w1 ⟨rfl, he⟩
    obtain rfl := he.symm
    clear kN
    go_wp2
    go_ret2
    exact ⟨rfl, H.out, Kp.refl _ _⟩
theorem next_any (k g : Nat) (w : World) (h : Ctr w g k) :
    Calls Try.prog 13 #[.pointer (some ⟨g, 0, none⟩)] w fun e w' => e = .returned (.int .u64 (k : Int)) ∧ Ctr w' g k ∧ Below w.heap.size w w' := by
  obtain ⟨c0, f0⟩ := cell1 h
  have H := hide1 h
  clear h
  go_enter Try.func13, Try.ntmps13
  go_wp2
  go_ret
  exact ⟨rfl, H.out, Below.refl _ _⟩
theorem reserve_none (n : Int) (w : World) : Calls Try.prog 12 #[.pointer none, .int .i64 n] w fun e w' => e = .returned (.tuple #[.int .u64 0, .int .i64 3]) ∧ Below w.heap.size w w' := by
  go_enter Try.func12, Try.ntmps12
  go_wp2
  go_ret2
  exact ⟨rfl, Below.refl _ _⟩
theorem next_none (w : World) : Calls Try.prog 13 #[.pointer none] w fun e w' => e = .returned (.int .u64 0) ∧ Below w.heap.size w w' := by
  go_enter Try.func13, Try.ntmps13
  go_wp2
  go_ret
  exact ⟨rfl, Below.refl _ _⟩
end Go.Proofs.Ytceemkjmmfkmdaa.St
