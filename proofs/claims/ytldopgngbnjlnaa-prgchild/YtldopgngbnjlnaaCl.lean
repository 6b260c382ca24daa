/- The walk of PrgChild. -/
import Derived.Test.YtldopgngbnjlnaaCh
import Derived.Stop.BytesEq
namespace Go.Proofs.Ytldopgngbnjlnaa
open Go.RowKit
set_option maxRecDepth 100000
attribute [local go_sem] not_any

theorem u8s_cells {l : List Nat} (h : Lt 256 l) : u8s l = (l.map UInt8.ofNat).map Extern.Stop.cell := by
  unfold u8s
  rw [List.map_map]
  apply List.map_congr_left
  intro x hx
  have := h x hx
  simp [Extern.Stop.cell, Nat.mod_eq_of_lt this]
theorem eq_seed {l : List Nat} (hl : l.length = 32) (ht : Lt 256 l) (w : World) :
    (Op.equalIn 10000 23 (.agg (u8s l).toArray) (.agg (u8s l).toArray)).run Try.prog w = .ok true w := by
  rw [u8s_cells ht, run_equalIn_bytes w 9998 23 5 32 Try.underlying23 Try.underlying5 (fun w => by kernel_rfl) _ _ (by rw [List.length_map, hl]) (by rw [List.length_map, hl])]
  simp
theorem childP_lt (kl : List Nat) (y : Nat) : Lt 256 (childP kl y) := by
  rw [childP]
  exact (blockP_lt _ _ _).take _
theorem guard23 : Try.prog.eqGuardType Try.prog.depth 23 = false := by kernel_rfl

theorem exec_eql_seed {o : Oper} {tmps : Array Value} {ds : List Deferred} {w : World} {l : List Nat} (x y : Operand) (t : TypeId) (ho : o.op = .binOp .eql 23 x y t) (hx : Act.eval ⟨tmps, ds⟩ x = .agg (u8s l).toArray) (hy : Act.eval ⟨tmps, ds⟩ y = .agg (u8s l).toArray)
    (h2 : (Op.equalIn 10000 23 (.agg (u8s l).toArray) (.agg (u8s l).toArray)).run Try.prog w = .ok true w) : (execOp (Act.eval ⟨tmps, ds⟩) o).run Try.prog w = .ok (.value (.bool true)) w := by
  have h1 := guard23
  unfold execOp
  simp only [ho, hx, hy]
  go_simp

set_option maxHeartbeats 2000000 in
theorem child_all (w : World) (kl : List Nat) (y : Nat) (hk : kl.length = 32) (bk : Lt 256 kl) (hy : y < 18446744073709551616) :
    Calls Try.prog 4 #[arr8 kl, .int .u64 (y : Int)] w fun e w' => e = .returned (.bool true) ∧ Below w.heap.size w w' := by
  have kc := fun w => hide1 (child_any kl y w hk bk hy)
  have kr := fun w => hide1 (rchild_any kl y w hk bk hy)
  have he := fun w => eq_seed (childP_length kl y) (childP_lt kl y) w
  generalize childP kl y = cl at *
  have hu := Try.underlying23
  have hi : (Try.prog.info? 23).map (·.size) = some (u8s kl).toArray.size := by rw [show (u8s kl).toArray.size = 32 by simp [u8s, hk]]; kernel_rfl
  clear hk bk hy
  unfold arr8 at kc kr ⊢
  go_enter Try.func4, Try.ntmps4
  go_upto_region 1 with (fail)
  generalize hX : World.alloc w _ = X
  have x0 : X.heap[w.heap.size]? = some (row8 23 kl) := by rw [← hX]; exact heap_alloc_new _ _
  have xb : Below w.heap.size w X := by rw [← hX]; exact (Below.refl _ _).alloc (Nat.le_refl _) _
  have HR : Hid (∀ w' : World, Below X.heap.size X w' → w'.heap[w.heap.size]? = some (row8 23 kl)) := fun w' hb => (hb.block _ (lt_heap x0)).trans x0
  have XB := hide1 xb
  clear hX x0 xb
  refine region_f (F := []) (S := fun w' => Below X.heap.size X w') (by kernel_rfl) ((Below.refl _ _).drew) (fun hS => ?_)
  refine take_f 0 5 (.agg (u8s kl).toArray) [2, 5, 6, 7, 8, 9, 10] rfl rfl (by kernel_rfl) (by kernel_rfl) (by kernel_rfl) (by kernel_rfl) (by kernel_rfl) (by kernel_rfl) (fun _ _ _ h => h) rfl (fun w hSw => by exact exec_load_row 23 (.tmp 2) rfl _ rfl 23 _ _ _ (HR.out _ hSw) hu hi) hS ?_
  try simp only [List.setIfInBounds_toArray, List.set_cons_zero, List.set_cons_succ]
  refine take_f 3 8 (.agg (u8s kl).toArray) [5, 6, 7, 8, 9, 10] rfl rfl (by kernel_rfl) (by kernel_rfl) (by kernel_rfl) (by kernel_rfl) (by kernel_rfl) (by kernel_rfl) (fun _ _ _ h => h) rfl (fun w hSw => by exact exec_load_row 23 (.tmp 2) rfl _ rfl 23 _ _ _ (HR.out _ hSw) hu hi) hS ?_
  try simp only [List.setIfInBounds_toArray, List.set_cons_zero, List.set_cons_succ]
  refine take_p 1 6 (.int .u64 (y : Int)) rfl rfl (by kernel_rfl) (by kernel_rfl) (by kernel_rfl) (fun _ _ _ h => h) rfl (fun w => by go_simp) ?_
  try simp only [List.setIfInBounds_toArray, List.set_cons_zero, List.set_cons_succ]
  refine take_p 4 9 (.int .u64 (y : Int)) rfl rfl (by kernel_rfl) (by kernel_rfl) (by kernel_rfl) (fun _ _ _ h => h) rfl (fun w => by go_simp) ?_
  try simp only [List.setIfInBounds_toArray, List.set_cons_zero, List.set_cons_succ]
  have hS0 := hS
  clear hS
  refine ready_f 2 (o := { dst := some 7, op := Op.call { callee := Callee.value (Operand.func 19), args := #[Operand.tmp 5, Operand.tmp 6], argTypes := #[23, 47] }, type := 23, pos := "law.go:30", after := #[{ on := 0, ground := Ground.data }, { on := 1, ground := Ground.data }], guard := none }) (by kernel_rfl) rfl (fun K hK => ?_)
  go_simp
  refine ((kc _).out).mono ?_
  rintro e v1 ⟨rfl, hb1⟩
  have hS1 : Below X.heap.size X v1 := hS0.trans (hb1.mono hS0.size)
  refine hK.out _ _ (fun _ _ => hS1) ?_
  clear hK K
  try simp only [Act.put, List.setIfInBounds_toArray, List.set_cons_zero, List.set_cons_succ]
  clear hb1 hS0
  refine ready_f 5 (o := { dst := some 10, op := Op.call { callee := Callee.value (Operand.func 20), args := #[Operand.tmp 8, Operand.tmp 9], argTypes := #[23, 47] }, type := 23, pos := "law.go:30", after := #[{ on := 3, ground := Ground.data }, { on := 4, ground := Ground.data }, { on := 2, ground := Ground.chain }], guard := none }) (by kernel_rfl) rfl (fun K hK => ?_)
  go_simp
  refine ((kr _).out).mono ?_
  rintro e v2 ⟨rfl, hb2⟩
  have hS2 : Below X.heap.size X v2 := hS1.trans (hb2.mono hS1.size)
  refine hK.out _ _ (fun _ _ => hS2) ?_
  clear hK K
  try simp only [Act.put, List.setIfInBounds_toArray, List.set_cons_zero, List.set_cons_succ]
  clear hb2 hS1
  refine take_p 6 11 (.bool true) rfl rfl (by kernel_rfl) (by kernel_rfl) (by kernel_rfl) (fun _ _ _ h => h) rfl (fun w => by exact exec_eql_seed (.tmp 7) (.tmp 10) 23 rfl rfl rfl (he w)) ?_
  try simp only [List.setIfInBounds_toArray, List.set_cons_zero, List.set_cons_succ]
  refine take_p 7 12 (.bool true) rfl rfl (by kernel_rfl) (by kernel_rfl) (by kernel_rfl) (fun _ _ _ h => h) rfl (fun w => by go_simp) ?_
  try simp only [List.setIfInBounds_toArray, List.set_cons_zero, List.set_cons_succ]
  refine ready_f 8 (o := { dst := some 13, op := Op.call { callee := Callee.value (Operand.func 9), args := #[], argTypes := #[] }, type := 4, pos := "law.go:30", after := #[{ on := 7, ground := Ground.chain }, { on := 7, ground := Ground.guard }], guard := some (7, true) }) (by kernel_rfl) rfl (fun K hK => ?_)
  go_simp
  refine (awake_any _).mono ?_
  rintro e v3 ⟨rfl, rfl⟩
  refine hK.out _ _ (fun _ h => h) ?_
  clear hK K
  try simp only [Act.put, List.setIfInBounds_toArray, List.set_cons_zero, List.set_cons_succ]
  refine take_p 9 14 (.bool true) rfl rfl (by kernel_rfl) (by kernel_rfl) (by kernel_rfl) (fun _ _ _ h => h) rfl (fun w => by go_simp) ?_
  try simp only [List.setIfInBounds_toArray, List.set_cons_zero, List.set_cons_succ]
  refine take_p 10 4 (.bool true) rfl rfl (by kernel_rfl) (by kernel_rfl) (by kernel_rfl) (fun _ _ _ h => h) rfl (fun w => by go_simp) ?_
  try simp only [List.setIfInBounds_toArray, List.set_cons_zero, List.set_cons_succ]
  refine done_f (by kernel_rfl) ?_ _
  have B := hide1 (XB.out.trans (hS2.mono XB.out.size))
  clear hS2 kc kr he hu hi HR XB
  go_wp2
  go_ret
  exact ⟨rfl, B.out⟩
end Go.Proofs.Ytldopgngbnjlnaa
