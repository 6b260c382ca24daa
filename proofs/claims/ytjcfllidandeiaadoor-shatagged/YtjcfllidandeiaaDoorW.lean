/- The walk of ShaLow. -/
import Derived.Test.YtjcfllidandeiaaDoorV
namespace Go.Proofs.YtjcfllidandeiaaDoor
open Go.RowKit
set_option maxRecDepth 100000
attribute [local go_sem] not_any

theorem exec_load_row {P : Program} {o : Oper} {tmps : Array Value} {ds : List Deferred} {w : World} (ty : TypeId) (x : Operand) (ho : o.op = .load ty x)
    (g : Nat) (hx : Act.eval ⟨tmps, ds⟩ x = .pointer (some ⟨g, 0, none⟩)) (t : TypeId) (cs : Array Value) (n : Nat) (e : TypeId) (hg : w.heap[g]? = some (.cells cs t (0, 0)))
    (hu : P.underlying ty = some (.array n e)) (hi : (P.info? ty).map (·.size) = some cs.size) : (execOp (Act.eval ⟨tmps, ds⟩) o).run P w = .ok (.value (.agg cs)) w := by
  unfold execOp
  simp only [ho, hx, Instr.loadAt, Instr.sureAddr, Sem.run_bind, Sem.run_pure, Result.andThen_ok, run_loadVar_row w g t ty cs (0, 0) _ hg hu rfl hi]

theorem range_row8 {w : World} {g : Nat} {t : TypeId} {l : List Nat} (h : w.heap[g]? = some (row8 t l)) : w.rangeAt g 0 (u8s l) := fun j v hv => by
  rw [Nat.zero_add, cell_of_row w g j _ t (0, 0) h]
  simpa using hv

set_option maxHeartbeats 2000000 in
theorem shaLow_any (l : List Nat) (w : World) (hl : l.length = 32) (ht : Lt 256 l) (hL : Laid w) :
    Calls Tryd.prog 7 #[arr8 l] w fun e w' => e = .returned (.bool true) ∧ Below w.heap.size w w' := by
  have c1 := fun w => hide1 (low_any l w hl ht)
  have c2 := fun w => hide1 (rlow_any l w hl ht)
  have Hl := hide1 hl
  have HL := hide1 hL
  unfold arr8 at c1 c2
  clear hL
  unfold arr8
  go_enter Tryd.func7, Tryd.ntmps7
  go_upto_region 1 with (fail)
  generalize hW : World.alloc w _ = W
  have h1 : W.heap[w.heap.size]? = some (row8 24 l) := by rw [← hW]; exact heap_alloc_new _ _
  have h3 : Below w.heap.size w W := by rw [← hW]; exact (Below.refl _ _).alloc (Nat.le_refl _) _
  have HR : Hid (∀ w' : World, Below W.heap.size W w' → w'.heap[w.heap.size]? = some (row8 24 l)) := fun w' hb => (hb.block _ (lt_heap h1)).trans h1
  have H3 := hide1 h3
  have HLW := hide1 (HL.out.below h3 HL.out.two)
  have hu := Tryd.underlying24
  have hi : (Tryd.prog.info? 24).map (·.size) = some (u8s l).toArray.size := by rw [show (u8s l).toArray.size = 32 by simp [u8s, hl]]; kernel_rfl
  clear hW h1 h3 hl ht
  generalize lowTo l 8 = x at c1 c2
  refine wp_region_held_drew (S := fun w' => Below W.heap.size W w') (by kernel_rfl) ((Below.refl _ _).drew) (fun hS => ?_)
  refine take_at 0 3 (.agg (u8s l).toArray) rfl rfl (by kernel_rfl) (by kernel_rfl) (by kernel_rfl) (fun _ _ _ h => h) rfl (fun w hSw => exec_load_row 24 (.tmp 1) rfl _ rfl 24 _ _ _ (HR.out _ hSw) hu hi) hS ?_
  try simp only [List.setIfInBounds_toArray, List.set_cons_zero, List.set_cons_succ]
  refine take_at 2 5 (.agg (u8s l).toArray) rfl rfl (by kernel_rfl) (by kernel_rfl) (by kernel_rfl) (fun _ _ _ h => h) rfl (fun w hSw => exec_load_row 24 (.tmp 1) rfl _ rfl 24 _ _ _ (HR.out _ hSw) hu hi) hS ?_
  try simp only [List.setIfInBounds_toArray, List.set_cons_zero, List.set_cons_succ]
  refine wpAnyH_ready (rs := [1]) (by kernel_rfl) (by simp) ?_
  refine AllReadyH.cons (o := { dst := some 4, op := .call { callee := .value (.func 11), args := #[.tmp 3], argTypes := #[24] }, type := 26, pos := "law.go:69", after := #[{ on := 0, ground := .data }], guard := none }) rfl (fun K hK => ?_) AllReadyH.nil
  go_simp
  refine (c1 _).out.mono ?_
  rintro e w1 ⟨rfl, hb1⟩
  refine hK.out _ _ (hS.trans (hb1.mono hS.size)) (fun hS' => ?_)
  replace hS := hS'
  clear hK K hS' hb1
  try simp only [Act.put, List.setIfInBounds_toArray, List.set_cons_zero, List.set_cons_succ]
  refine wpAnyH_ready (rs := [3]) (by kernel_rfl) (by simp) ?_
  refine AllReadyH.cons (o := { dst := some 6, op := .call { callee := .value (.func 12), args := #[.tmp 5], argTypes := #[24] }, type := 26, pos := "law.go:69", after := #[{ on := 2, ground := .data }, { on := 1, ground := .chain }], guard := none }) rfl (fun K hK => ?_) AllReadyH.nil
  go_simp
  refine (c2 _).out.mono ?_
  rintro e w2 ⟨rfl, hb1⟩
  refine hK.out _ _ (hS.trans (hb1.mono hS.size)) (fun hS' => ?_)
  replace hS := hS'
  clear hK K hS' hb1
  try simp only [Act.put, List.setIfInBounds_toArray, List.set_cons_zero, List.set_cons_succ]
  refine take_at 4 7 (.bool true) rfl rfl (by kernel_rfl) (by kernel_rfl) (by kernel_rfl) (fun _ _ _ h => h) rfl (fun w hSw => by clear hSw; go_simp) hS ?_
  try simp only [List.setIfInBounds_toArray, List.set_cons_zero, List.set_cons_succ]
  refine take_at 5 8 (.bool true) rfl rfl (by kernel_rfl) (by kernel_rfl) (by kernel_rfl) (fun _ _ _ h => h) rfl (fun w hSw => by clear hSw; go_simp) hS ?_
  try simp only [List.setIfInBounds_toArray, List.set_cons_zero, List.set_cons_succ]
  refine wpAnyH_ready (rs := [6]) (by kernel_rfl) (by simp) ?_
  refine AllReadyH.cons (o := { dst := some 9, op := .call { callee := .value (.func 8), args := #[], argTypes := #[] }, type := 4, pos := "law.go:69", after := #[{ on := 5, ground := .chain }, { on := 5, ground := .guard }], guard := some (5, true) }) rfl (fun K hK => ?_) AllReadyH.nil
  go_simp
  refine (awake_any _ (HLW.out.below hS HLW.out.two)).mono ?_
  rintro e w3 ⟨rfl, hb1⟩
  refine hK.out _ _ (hS.trans (hb1.mono hS.size)) (fun hS' => ?_)
  replace hS := hS'
  clear hK K hS' hb1
  try simp only [Act.put, List.setIfInBounds_toArray, List.set_cons_zero, List.set_cons_succ]
  refine take_at 7 10 (.bool true) rfl rfl (by kernel_rfl) (by kernel_rfl) (by kernel_rfl) (fun _ _ _ h => h) rfl (fun w hSw => by clear hSw; go_simp) hS ?_
  try simp only [List.setIfInBounds_toArray, List.set_cons_zero, List.set_cons_succ]
  refine take_at 8 2 (.bool true) rfl rfl (by kernel_rfl) (by kernel_rfl) (by kernel_rfl) (fun _ _ _ h => h) rfl (fun w hSw => by clear hSw; go_simp) hS ?_
  try simp only [List.setIfInBounds_toArray, List.set_cons_zero, List.set_cons_succ]
  refine wpAnyH_done (by kernel_rfl) ?_ _
  go_wp2
  go_ret
  exact ⟨rfl, H3.out.trans (hS.mono H3.out.size)⟩

end Go.Proofs.YtjcfllidandeiaaDoor
