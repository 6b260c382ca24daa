/- The walk of PrgChild. -/
import Derived.Test.YtpigbhmamaghgaaPgCh
import Derived.Stop.BytesEq
namespace Go.Proofs.Ytpigbhmamaghgaa.Pg
open Go.RowKit
set_option maxRecDepth 100000
attribute [local go_sem] not_any

theorem u8s_cells {l : List Nat} (h : Lt 256 l) : u8s l = (l.map UInt8.ofNat).map Extern.Stop.cell := by
  unfold u8s
  rw [List.map_map]
  apply List.map_congr_left
  intro x hx
  have := h x hx
  simp [Extern.Stop.cell, Nat.mod_eq_of_lt this]
theorem eq_seed {l : List Nat} (hl : l.length = 32) (ht : Lt 256 l) (w : World) :
    (Op.equalIn 10000 23 (.agg (u8s l).toArray) (.agg (u8s l).toArray)).run Try.prog w = .ok true w := by
  rw [u8s_cells ht, run_equalIn_bytes w 9998 23 5 32 Try.underlying23 Try.underlying5 (fun w => by kernel_rfl) _ _ (by rw [List.length_map, hl]) (by rw [List.length_map, hl])]
  simp
theorem childP_lt (kl : List Nat) (y : Nat) : Lt 256 (childP kl y) := by
  rw [childP]
  exact (blockP_lt _ _ _).take _
theorem guard23 : Try.prog.eqGuardType Try.prog.depth 23 = false := by kernel_rfl

theorem exec_eql_seed {o : Oper} {tmps : Array Value} {ds : List Deferred} {w : World} {l : List Nat} (x y : Operand) (t : TypeId) (ho : o.op = .binOp .eql 23 x y t) (hx : Act.eval ⟨tmps, ds⟩ x = .agg (u8s l).toArray) (hy : Act.eval ⟨tmps, ds⟩ y = .agg (u8s l).toArray)
    (h2 : (Op.equalIn 10000 23 (.agg (u8s l).toArray) (.agg (u8s l).toArray)).run Try.prog w = .ok true w) : (execOp (Act.eval ⟨tmps, ds⟩) o).run Try.prog w = .ok (.value (.bool true)) w := by
  have h1 := guard23
  unfold execOp
  simp only [ho, hx, hy]
  go_simp

end Go.Proofs.Ytpigbhmamaghgaa.Pg
