/- New: a source made. -/
import Derived.Test.YtldopgngbnjlnaaNo
import Derived.Test.YtldopgngbnjlnaaF
namespace Go.Proofs.Ytldopgngbnjlnaa
open Go.RowKit
set_option maxRecDepth 100000
attribute [local go_sem] not_any

theorem list32 {l : List Nat} (h : l.length = 32) : ∃ a0 a1 a2 a3 a4 a5 a6 a7 a8 a9 b0 b1 b2 b3 b4 b5 b6 b7 b8 b9 c0 c1 c2 c3 c4 c5 c6 c7 c8 c9 d0 d1 : Nat, l = [a0, a1, a2, a3, a4, a5, a6, a7, a8, a9, b0, b1, b2, b3, b4, b5, b6, b7, b8, b9, c0, c1, c2, c3, c4, c5, c6, c7, c8, c9, d0, d1] := by
  match l, h with
  | [a0, a1, a2, a3, a4, a5, a6, a7, a8, a9, b0, b1, b2, b3, b4, b5, b6, b7, b8, b9, c0, c1, c2, c3, c4, c5, c6, c7, c8, c9, d0, d1], _ => exact ⟨_, _, _, _, _, _, _, _, _, _, _, _, _, _, _, _, _, _, _, _, _, _, _, _, _, _, _, _, _, _, _, _, rfl⟩

theorem build_src (kl : List Nat) (hk : kl.length = 32) (x : Int) (w : World) :
    (Instr.build 65 #[(0, .bool true), (1, .agg (u8s kl).toArray), (2, .int .u32 x)]).run Try.prog w = .ok (.agg (.bool true :: (u8s kl ++ [.int .u32 x, .int .i64 0])).toArray) w := by
  obtain ⟨a0, a1, a2, a3, a4, a5, a6, a7, a8, a9, b0, b1, b2, b3, b4, b5, b6, b7, b8, b9, c0, c1, c2, c3, c4, c5, c6, c7, c8, c9, d0, d1, rfl⟩ := list32 hk
  kernel_rfl

theorem wpList_build {P : Program} {ops : Array Oper} {rest : List Oper} {o : Oper} {a : Act} {w : World} {Q : Exit → Act → World → Prop} (hgd : o.guard = none) (t : TypeId) (ps : Array (Nat × Operand)) (ho : o.op = .build t ps)
    (parts : Array (Nat × Value)) (hp : (ps.map fun (i, x) => (i, a.eval x)) = parts) (v : Value) (hr : (Instr.build t parts).run P w = .ok v w)
    (h : wpList P ops Q rest (a.put o.dst v) w) : wpList P ops Q (o :: rest) a w :=
  wpList_plain hgd fun K hK => by
    unfold Oper.wp execOp
    simp only [ho, hp, Sem.run_bind, Sem.run_pure, hr, Result.andThen_ok]
    exact hK _ _ h

theorem wpList_val {P : Program} {ops : Array Oper} {rest : List Oper} {o : Oper} {a : Act} {w : World} {Q : Exit → Act → World → Prop} (hgd : o.guard = none) (v : Value) (he : (execOp a.eval o).run P w = .ok (.value v) w)
    (h : wpList P ops Q rest (a.put o.dst v) w) : wpList P ops Q (o :: rest) a w :=
  wpList_plain hgd fun K hK => by
    unfold Oper.wp
    simp only [he]
    exact hK _ _ h

set_option maxHeartbeats 2000000 in
theorem new_any (kl : List Nat) (x : Nat) (w : World) (hk : kl.length = 32) :
    Calls Try.prog 21 #[arr8 kl, .int .u32 (x : Int)] w fun e w' => ∃ g, e = .returned (.pointer (some ⟨g, 0, none⟩)) ∧ w.heap.size ≤ g ∧ w'.heap[g]? = some (srow true kl x 0) ∧ Below w.heap.size w w' := by
  have Hz : Hid ((u8s kl).toArray.size = 32) := by show _ = _; simp [u8s, hk]
  obtain ⟨cs, hcs⟩ : ∃ cs, cs = (Value.bool true :: (u8s kl ++ [.int .u32 (x : Int), .int .i64 0])).toArray := ⟨_, rfl⟩
  have HB := fun w => hide1 (build_src kl hk x w)
  rw [← hcs] at HB
  have HC : Shy (srow true kl x 0 = .cells cs 65 (0, 0)) := ⟨by rw [hcs]; rfl⟩
  rw [HC.out]
  clear hk hcs HC
  unfold arr8
  go_enter Try.func21, Try.ntmps21
  go_upto_region 1 with (fail)
  generalize hX : World.alloc w _ = X
  have x0 : X.heap[w.heap.size]? = some (row8 23 kl) := by rw [← hX]; exact heap_alloc_new _ _
  have xb : Below w.heap.size w X := by rw [← hX]; exact (Below.refl _ _).alloc (Nat.le_refl _) _
  have X0 := hide1 x0
  have XB := hide1 xb
  clear hX x0 xb
  refine wp_region_lit ?_
  refine wpList_load_row rfl 23 (.tmp 2) rfl w.heap.size rfl 23 (u8s kl).toArray (0, 0) _ X0.out Try.underlying23 rfl (by rw [Hz.out]; kernel_rfl) ?_
  refine wpList_val rfl (.int .u32 (x : Int)) rfl ?_
  refine wpList_build rfl 65 _ rfl #[(0, .bool true), (1, .agg (u8s kl).toArray), (2, .int .u32 (x : Int))] (by kernel_rfl) _ (HB _).out ?_
  simp only [Act.put, List.setIfInBounds_toArray, List.set_cons_zero, List.set_cons_succ]
  go_wp2
  go_ret
  exact ⟨X.heap.size, rfl, XB.out.size, heap_alloc_new _ _, XB.out.alloc XB.out.size _⟩
end Go.Proofs.Ytldopgngbnjlnaa
