/- A call of both tapes, and what is asked behind it: Skip. -/
import Derived.Test.YtdkakodlkbkhnaaDoorPb
namespace Go.Proofs.YtdkakodlkbkhnaaDoor
open Go.RowKit
set_option maxRecDepth 100000
attribute [local go_sem] not_any mf_any

set_option maxHeartbeats 8000000 in
theorem does5 (w0 w : World) (t b rb k c L : Nat) (a : Option Addr) (ws : List Nat) (kd n B : Int) (D : Dz w0 w t b rb k c L a ws) (hkd : (kd == 0) = false ∧ (kd == 1) = false ∧ (kd == 2) = false ∧ (kd == 3) = false ∧ (kd == 4) = false) :
    Calls Tryd.prog 9 #[.pointer (some ⟨t, 0, none⟩), .pointer (some ⟨rb, 0, none⟩), .agg #[.int .i64 kd, .int .i64 n, .int .i64 B]] w (DoPost w0 w t b rb (skipK n k L) c L a ws) := by
  obtain ⟨d0, d1, d2, d3, d4⟩ := hkd
  have HD := hide1 D
  obtain ⟨r0, r1, _, _⟩ := box2 D.box
  have hrl : rb < w.heap.size := lt_of_heap D.box
  have htl : t < w.heap.size := D.tp.lt
  have Hlt := hide1 (And.intro hrl htl)
  clear D
  go_enter Tryd.func9, Tryd.ntmps9
  go_wp2_with fail
  generalize hW : World.alloc (World.alloc w _) _ = W
  have wa : W.heap[w.heap.size]? = some (.cells #[.int .i64 kd, .int .i64 n, .int .i64 B] 35 (0, 0)) := by rw [← hW]; exact heap_alloc2_old _ _ _
  have wn : W.heap[w.heap.size + 1]? = some (.cells #[.slice a L c, .int .i64 (k : Int)] 31 (0, 0)) := by rw [← hW]; exact heap_alloc2_new _ _ _
  have wb : Below w.heap.size w W := by rw [← hW]; exact ((Below.refl _ _).alloc (Nat.le_refl _) _).alloc (by simp) _
  have wz : W.heap.size = w.heap.size + 2 := by rw [← hW]; simp
  clear hW r0 r1
  have HT := hide1 (skip_any t b k L n W (HD.out.tp.below wb HD.out.tp.lt))
  unfold SkipPost at HT
  obtain ⟨k', ek⟩ : ∃ k', skipK n k L = k' := ⟨_, rfl⟩
  obtain ⟨code, ec⟩ : ∃ code, skipC n k L = code := ⟨_, rfl⟩
  rw [ek, ec] at HT
  refine HT.out.mono ?_
  rintro e W2 ⟨v, rfl, h2, h3, h4⟩
  have M2 := hide1 (Md.first HD.out wa wn wb h4 h2 h3)
  have EQ : Shy (skipK n k L = k' ∧ skipC n k L = code) := ⟨ek, ec⟩
  clear wa wn wb wz h2 h3 h4 HT ek ec
  go_wp2_with fail
  obtain ⟨s0, s1, _, _⟩ := box2 M2.out.bx
  obtain ⟨_, s2, _⟩ := act3 M2.out.ac
  have HRT := hide1 (rskip_any a c k L n W2.drew)
  unfold RSkipPost at HRT
  rw [EQ.out.1, EQ.out.2] at HRT
  refine region_f (F := [5, 9]) (S := fun w' => w'.cell? ⟨rb, 0, none⟩ = some (.slice a L c) ∧ w'.cell? ⟨rb, 1, none⟩ = some (.int .i64 (k : Int)) ∧ w'.cell? ⟨w.heap.size, 1, none⟩ = some (.int .i64 n)) mixed ⟨s0, s1, s2⟩ (fun hS => ?_)
  refine take_p 0 33 (.pointer (some ⟨rb, 0, none⟩)) rfl rfl (by kernel_rfl) (by kernel_rfl) (by kernel_rfl) (fun _ _ _ h => h) rfl (fun w => by go_simp) ?_
  try simp only [List.setIfInBounds_toArray, List.set_cons_zero, List.set_cons_succ]
  refine take_p 1 34 (.pointer (some ⟨rb, 0, none⟩)) rfl rfl (by kernel_rfl) (by kernel_rfl) (by kernel_rfl) (fun _ _ _ h => h) rfl (fun w => by go_simp) ?_
  try simp only [List.setIfInBounds_toArray, List.set_cons_zero, List.set_cons_succ]
  refine take_f 2 35 (.agg #[.slice a L c, .int .i64 (k : Int)]) [5, 6, 7, 8, 9, 10] rfl rfl (by kernel_rfl) (by kernel_rfl) (by kernel_rfl) (by kernel_rfl) (by kernel_rfl) (by kernel_rfl) (fun _ _ _ h => h) rfl (fun w hSw => by have h0 := hSw.1; have h1 := hSw.2.1; clear hSw; go_simp) hS ?_
  try simp only [List.setIfInBounds_toArray, List.set_cons_zero, List.set_cons_succ]
  refine take_p 3 36 (.pointer (some ⟨w.heap.size, 1, none⟩)) rfl rfl (by kernel_rfl) (by kernel_rfl) (by kernel_rfl) (fun _ _ _ h => h) rfl (fun w => by go_simp) ?_
  try simp only [List.setIfInBounds_toArray, List.set_cons_zero, List.set_cons_succ]
  refine take_f 4 37 (.int .i64 n) [5, 6, 7, 8, 9, 10] rfl rfl (by kernel_rfl) (by kernel_rfl) (by kernel_rfl) (by kernel_rfl) (by kernel_rfl) (by kernel_rfl) (fun _ _ _ h => h) rfl (fun w hSw => by have h0 := hSw.2.2; clear hSw; go_simp) hS ?_
  try simp only [List.setIfInBounds_toArray, List.set_cons_zero, List.set_cons_succ]
  refine ready_f 5 (o := { dst := some 38, op := Op.call { callee := Callee.value (Operand.func 24), args := #[Operand.tmp 35, Operand.tmp 37], argTypes := #[33, 3] }, type := 67, pos := "law.go:60", after := #[{ on := 2, ground := Ground.data }, { on := 4, ground := Ground.data }], guard := none }) (by kernel_rfl) rfl (fun K hK => ?_)
  go_simp
  refine HRT.out.mono ?_
  rintro e W3 ⟨rfl, hb6⟩
  have M3 := hide1 (M2.out.next ((Below.refl _ _).drew.trans hb6))
  clear hb6
  refine hK.out _ _ (fun h => absurd (by decide) h) ?_
  clear hK K
  try simp only [Act.put, List.setIfInBounds_toArray, List.set_cons_zero, List.set_cons_succ]
  refine take_p 6 32 (.tuple #[.agg #[.slice a L c, .int .i64 (k' : Int)], .int .i64 code]) rfl rfl (by kernel_rfl) (by kernel_rfl) (by kernel_rfl) (fun _ _ _ h => h) rfl (fun w => by go_simp) ?_
  try simp only [List.setIfInBounds_toArray, List.set_cons_zero, List.set_cons_succ]
  refine take_p 7 39 (.agg #[.slice a L c, .int .i64 (k' : Int)]) rfl rfl (by kernel_rfl) (by kernel_rfl) (by kernel_rfl) (fun _ _ _ h => h) rfl (fun w => by go_simp) ?_
  try simp only [List.setIfInBounds_toArray, List.set_cons_zero, List.set_cons_succ]
  refine take_p 8 40 (.int .i64 code) rfl rfl (by kernel_rfl) (by kernel_rfl) (by kernel_rfl) (fun _ _ _ h => h) rfl (fun w => by go_simp) ?_
  try simp only [List.setIfInBounds_toArray, List.set_cons_zero, List.set_cons_succ]
  obtain ⟨x0, x1, x2, x3⟩ := box2 M3.out.nxt
  refine ready_f 9 (o := { dst := none, op := Op.store 31 (Operand.tmp 7) (Operand.tmp 39), type := 0, pos := "law.go:60", after := #[{ on := 7, ground := Ground.data }, { on := 5, ground := Ground.chain }, { on := 0, ground := Ground.phase }, { on := 1, ground := Ground.phase }, { on := 2, ground := Ground.phase }, { on := 3, ground := Ground.phase }, { on := 4, ground := Ground.phase }, { on := 5, ground := Ground.phase }, { on := 6, ground := Ground.phase }, { on := 7, ground := Ground.phase }, { on := 8, ground := Ground.textOnly Departure.lateStores }], guard := none }) (by kernel_rfl) rfl (fun K hK => ?_)
  go_simp
  refine hK.out _ _ (fun h => absurd (by decide) h) ?_
  clear hK K
  refine take_p 10 8 (.int .i64 code) rfl rfl (by kernel_rfl) (by kernel_rfl) (by kernel_rfl) (fun _ _ _ h => h) rfl (fun w => by go_simp) ?_
  try simp only [List.setIfInBounds_toArray, List.set_cons_zero, List.set_cons_succ]
  refine done_f (by kernel_rfl) ?_ _
  generalize hY : World.setCell (World.setCell W3 _ _) _ _ = W4
  have M3' := M3.out.put Hlt.out.2 Hlt.out.1 k'
  rw [hY] at M3'
  have M4 := hide1 M3'
  clear M3' hY M2 M3 x0 x1 x2 x3 s0 s1 s2 hS HRT
  have hdl := M4.out.last HD.out
  have hnk := box2 M4.out.nxt
  have hbk := box2 M4.out.bx
  obtain ⟨n0, n1, _, _⟩ := hnk
  obtain ⟨q0, q1, q2, q3⟩ := hbk
  have HLA := hide1 hdl
  clear hdl
  go_wp2
  generalize hX : World.setCell (World.setCell W4 ⟨rb, 0, none⟩ _) ⟨rb, 1, none⟩ _ = X
  rw [hX] at HLA
  obtain ⟨TL0, KX0⟩ := HLA.out
  have TL := hide1 TL0
  have KX := hide1 KX0
  have hC := tl_code TL.out
  have hAt := tl_at TL.out
  have hLe := tl_left TL.out
  obtain ⟨y0, y1, _, _⟩ := box2 TL.out.bx
  have y0 := bw_cell y0
  have y1 := bw_cell y1
  have hne : Nonempty (Bw X) := ⟨⟨X, Below.refl _ _⟩⟩
  have hkL := TL.out.tp.le
  have hLm := TL.out.len
  obtain ⟨r, hr⟩ : ∃ r, r = L - k' := ⟨_, rfl⟩
  rw [← hr] at hLe
  have hwr : IntKind.i64.wrap ((L : Int) - (k' : Int)) = (r : Int) := by rw [IntKind.wrap_i64]; omega
  have z1 : (code == code) = true := by simp
  have z2 : ((k' : Int) == (k' : Int)) = true := by simp
  have z3 : ((r : Int) == (r : Int)) = true := by simp
  clear hr hX TL0 KX0 HLA n0 n1 q0 q1 q2 q3 M4 hkL hLm
  refine wp_region_quiet_bw mixed (by kernel_rfl) ?_
  repeat (go_big_quiet_step (first | (go_at_call 17; exact bw_of (hC _).out) | (go_at_call 12; exact bw_of (hAt _).out) | (go_at_call 13; exact bw_of (hLe _).out)))
  refine wpQuiet_nil ?_
  intro w9 hw9
  obtain ⟨p, rfl⟩ := hw9
  go_wp2
  go_ret
  rw [EQ.out.1]
  exact TL.out.bw KX.out HD.out p

end Go.Proofs.YtdkakodlkbkhnaaDoor
