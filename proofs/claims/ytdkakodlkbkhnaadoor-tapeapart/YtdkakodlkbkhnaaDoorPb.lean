/- A call of both tapes, and what is asked behind it: Numbers. -/
import Derived.Test.YtdkakodlkbkhnaaDoorPa
namespace Go.Proofs.YtdkakodlkbkhnaaDoor
open Go.RowKit
set_option maxRecDepth 100000
attribute [local go_sem] not_any mf_any

theorem Dz.lensN {w0 w : World} {t b rb k c L : Nat} {a : Option Addr} {ws : List Nat} (D : Dz w0 w t b rb k c L a ws) (n B : Int) : (numL n B k ws).length ≤ 1048576 := by
  unfold numL
  split
  · rw [List.length_map]; exact D.lens n
  · simp

set_option maxHeartbeats 8000000 in
theorem does2 (w0 w : World) (t b rb k c L : Nat) (a : Option Addr) (ws : List Nat) (n B : Int) (D : Dz w0 w t b rb k c L a ws) :
    Calls Tryd.prog 9 #[.pointer (some ⟨t, 0, none⟩), .pointer (some ⟨rb, 0, none⟩), .agg #[.int .i64 2, .int .i64 n, .int .i64 B]] w (DoPost w0 w t b rb (numK n B k L) c L a ws) := by
  have HLen := hide1 (D.lensN n B)
  have HD := hide1 D
  obtain ⟨r0, r1, _, _⟩ := box2 D.box
  have hrl : rb < w.heap.size := lt_of_heap D.box
  have htl : t < w.heap.size := D.tp.lt
  have Hlt := hide1 (And.intro hrl htl)
  clear D
  go_enter Tryd.func9, Tryd.ntmps9
  go_wp2_with fail
  generalize hW : World.alloc (World.alloc w _) _ = W
  have wa : W.heap[w.heap.size]? = some (.cells #[.int .i64 2, .int .i64 n, .int .i64 B] 35 (0, 0)) := by rw [← hW]; exact heap_alloc2_old _ _ _
  have wn : W.heap[w.heap.size + 1]? = some (.cells #[.slice a L c, .int .i64 (k : Int)] 31 (0, 0)) := by rw [← hW]; exact heap_alloc2_new _ _ _
  have wb : Below w.heap.size w W := by rw [← hW]; exact ((Below.refl _ _).alloc (Nat.le_refl _) _).alloc (by simp) _
  have wz : W.heap.size = w.heap.size + 2 := by rw [← hW]; simp
  clear hW r0 r1
  have HT := nm HD.out wb n B
  obtain ⟨k', ek⟩ : ∃ k', numK n B k L = k' := ⟨_, rfl⟩
  obtain ⟨code, ec⟩ : ∃ code, numC n B k L = code := ⟨_, rfl⟩
  obtain ⟨l, el⟩ : ∃ l, numL n B k ws = l := ⟨_, rfl⟩
  rw [ek, ec, el] at HT
  rw [el] at HLen
  refine HT.out.mono ?_
  rintro e W2 ⟨al, m, cl, v, rfl, h1, h2, h3, h4⟩
  have M2 := hide1 (Md.first HD.out wa wn wb h4 h2 h3)
  have HO := hide1 h1
  have EQ : Shy (numK n B k L = k' ∧ numC n B k L = code ∧ numL n B k ws = l) := ⟨ek, ec, el⟩
  have WZ : Shy (W.heap.size = w.heap.size + 2) := ⟨wz⟩
  clear wa wn wb wz h1 h2 h3 h4 HT ek ec el
  go_wp2_with fail
  obtain ⟨ek, ec, el⟩ := EQ.out
  obtain ⟨s0, s1, _, _⟩ := box2 M2.out.bx
  obtain ⟨_, s2, s3⟩ := act3 M2.out.ac
  have HRT := rnm HD.out (HD.out.to M2.out.kp).drew n B
  rw [ek, ec, el] at HRT
  clear ek ec el
  refine region_f (F := [7, 12]) (S := fun w' => w'.cell? ⟨rb, 0, none⟩ = some (.slice a L c) ∧ w'.cell? ⟨rb, 1, none⟩ = some (.int .i64 (k : Int)) ∧ w'.cell? ⟨w.heap.size, 1, none⟩ = some (.int .i64 n) ∧ w'.cell? ⟨w.heap.size, 2, none⟩ = some (.int .i64 B)) mixed ⟨s0, s1, s2, s3⟩ (fun hS => ?_)
  refine take_p 0 111 (.pointer (some ⟨rb, 0, none⟩)) rfl rfl (by kernel_rfl) (by kernel_rfl) (by kernel_rfl) (fun _ _ _ h => h) rfl (fun w => by go_simp) ?_
  try simp only [List.setIfInBounds_toArray, List.set_cons_zero, List.set_cons_succ]
  refine take_p 1 112 (.pointer (some ⟨rb, 0, none⟩)) rfl rfl (by kernel_rfl) (by kernel_rfl) (by kernel_rfl) (fun _ _ _ h => h) rfl (fun w => by go_simp) ?_
  try simp only [List.setIfInBounds_toArray, List.set_cons_zero, List.set_cons_succ]
  refine take_f 2 113 (.agg #[.slice a L c, .int .i64 (k : Int)]) [7, 8, 9, 10, 11, 12, 13, 14] rfl rfl (by kernel_rfl) (by kernel_rfl) (by kernel_rfl) (by kernel_rfl) (by kernel_rfl) (by kernel_rfl) (fun _ _ _ h => h) rfl (fun w hSw => by have h0 := hSw.1; have h1 := hSw.2.1; clear hSw; go_simp) hS ?_
  try simp only [List.setIfInBounds_toArray, List.set_cons_zero, List.set_cons_succ]
  refine take_p 3 114 (.pointer (some ⟨w.heap.size, 1, none⟩)) rfl rfl (by kernel_rfl) (by kernel_rfl) (by kernel_rfl) (fun _ _ _ h => h) rfl (fun w => by go_simp) ?_
  try simp only [List.setIfInBounds_toArray, List.set_cons_zero, List.set_cons_succ]
  refine take_f 4 115 (.int .i64 n) [7, 8, 9, 10, 11, 12, 13, 14] rfl rfl (by kernel_rfl) (by kernel_rfl) (by kernel_rfl) (by kernel_rfl) (by kernel_rfl) (by kernel_rfl) (fun _ _ _ h => h) rfl (fun w hSw => by have h0 := hSw.2.2.1; clear hSw; go_simp) hS ?_
  try simp only [List.setIfInBounds_toArray, List.set_cons_zero, List.set_cons_succ]
  refine take_p 5 116 (.pointer (some ⟨w.heap.size, 2, none⟩)) rfl rfl (by kernel_rfl) (by kernel_rfl) (by kernel_rfl) (fun _ _ _ h => h) rfl (fun w => by go_simp) ?_
  try simp only [List.setIfInBounds_toArray, List.set_cons_zero, List.set_cons_succ]
  refine take_f 6 117 (.int .i64 B) [7, 8, 9, 10, 11, 12, 13, 14] rfl rfl (by kernel_rfl) (by kernel_rfl) (by kernel_rfl) (by kernel_rfl) (by kernel_rfl) (by kernel_rfl) (fun _ _ _ h => h) rfl (fun w hSw => by have h0 := hSw.2.2.2; clear hSw; go_simp) hS ?_
  try simp only [List.setIfInBounds_toArray, List.set_cons_zero, List.set_cons_succ]
  refine ready_f 7 (o := { dst := some 118, op := Op.call { callee := Callee.value (Operand.func 22), args := #[Operand.tmp 113, Operand.tmp 115, Operand.tmp 117], argTypes := #[33, 3, 3] }, type := 62, pos := "law.go:45", after := #[{ on := 2, ground := Ground.data }, { on := 4, ground := Ground.data }, { on := 6, ground := Ground.data }], guard := none }) (by kernel_rfl) rfl (fun K hK => ?_)
  go_simp
  refine HRT.out.mono ?_
  rintro e W3 ⟨a6, m6, c6, rfl, ho6, hb6⟩
  have M3 := hide1 (M2.out.next ((Below.refl _ _).drew.trans hb6))
  have HO6 := hide1 ho6
  have HB6 := hide1 hb6
  clear ho6 hb6
  refine hK.out _ _ (fun h => absurd (by decide) h) ?_
  clear hK K
  try simp only [Act.put, List.setIfInBounds_toArray, List.set_cons_zero, List.set_cons_succ]
  refine take_p 8 110 (.tuple #[.agg #[.slice a L c, .int .i64 (k' : Int)], .slice a6 m6 c6, .int .i64 code]) rfl rfl (by kernel_rfl) (by kernel_rfl) (by kernel_rfl) (fun _ _ _ h => h) rfl (fun w => by go_simp) ?_
  try simp only [List.setIfInBounds_toArray, List.set_cons_zero, List.set_cons_succ]
  refine take_p 9 119 (.agg #[.slice a L c, .int .i64 (k' : Int)]) rfl rfl (by kernel_rfl) (by kernel_rfl) (by kernel_rfl) (fun _ _ _ h => h) rfl (fun w => by go_simp) ?_
  try simp only [List.setIfInBounds_toArray, List.set_cons_zero, List.set_cons_succ]
  refine take_p 10 120 (.slice a6 m6 c6) rfl rfl (by kernel_rfl) (by kernel_rfl) (by kernel_rfl) (fun _ _ _ h => h) rfl (fun w => by go_simp) ?_
  try simp only [List.setIfInBounds_toArray, List.set_cons_zero, List.set_cons_succ]
  refine take_p 11 121 (.int .i64 code) rfl rfl (by kernel_rfl) (by kernel_rfl) (by kernel_rfl) (fun _ _ _ h => h) rfl (fun w => by go_simp) ?_
  try simp only [List.setIfInBounds_toArray, List.set_cons_zero, List.set_cons_succ]
  obtain ⟨x0, x1, x2, x3⟩ := box2 M3.out.nxt
  refine ready_f 12 (o := { dst := none, op := Op.store 31 (Operand.tmp 7) (Operand.tmp 119), type := 0, pos := "law.go:45", after := #[{ on := 9, ground := Ground.data }, { on := 7, ground := Ground.chain }, { on := 0, ground := Ground.phase }, { on := 1, ground := Ground.phase }, { on := 2, ground := Ground.phase }, { on := 3, ground := Ground.phase }, { on := 4, ground := Ground.phase }, { on := 5, ground := Ground.phase }, { on := 6, ground := Ground.phase }, { on := 7, ground := Ground.phase }, { on := 8, ground := Ground.phase }, { on := 9, ground := Ground.phase }, { on := 10, ground := Ground.textOnly Departure.lateStores }, { on := 11, ground := Ground.textOnly Departure.lateStores }], guard := none }) (by kernel_rfl) rfl (fun K hK => ?_)
  go_simp
  refine hK.out _ _ (fun h => absurd (by decide) h) ?_
  clear hK K
  refine take_p 13 10 (.slice a6 m6 c6) rfl rfl (by kernel_rfl) (by kernel_rfl) (by kernel_rfl) (fun _ _ _ h => h) rfl (fun w => by go_simp) ?_
  try simp only [List.setIfInBounds_toArray, List.set_cons_zero, List.set_cons_succ]
  refine take_p 14 8 (.int .i64 code) rfl rfl (by kernel_rfl) (by kernel_rfl) (by kernel_rfl) (fun _ _ _ h => h) rfl (fun w => by go_simp) ?_
  try simp only [List.setIfInBounds_toArray, List.set_cons_zero, List.set_cons_succ]
  refine done_f (by kernel_rfl) ?_ _
  generalize hY : World.setCell (World.setCell W3 _ _) _ _ = Y
  have M3' := M3.out.put Hlt.out.2 Hlt.out.1 k'
  rw [hY] at M3'
  have hYk : Kp (fun j _ => j = w.heap.size + 1) W3 Y := by rw [← hY]; exact ((Kp.refl _ _).setCell _ (fun _ _ => rfl) _).setCell _ (fun _ _ => rfl) _
  have hz2 : W.heap.size ≤ W2.heap.size := by rw [WZ.out]; exact lt_of_heap M2.out.nxt
  have hn1 := ((HO.out.next ((Below.refl _ _).drew.trans HB6.out)).kp hYk (fun j o hj => by rw [hj, WZ.out]; omega)).nl
  have hn2 := (HO6.out.kp hYk (fun j o hj => by rw [hj]; show _ < W2.heap.size; have := WZ.out; omega)).nl
  obtain rfl : m6 = m := by rw [← hn2.len, ← hn1.len]
  have HNm := hide1 (nums_any Y m6 cl c6 al a6 l hn1 hn2 (by rw [← hn1.len]; exact HLen.out))
  have MY := hide1 M3'
  clear M3' hYk hz2 hn1 hn2 hY M2 M3 HO HO6 HB6 x0 x1 x2 x3 s0 s1 s2 s3 hS HRT
  go_wp2_with fail
  refine HNm.out.mono ?_
  rintro e W4 ⟨rfl, q, hq⟩
  have M4 := hide1 (MY.out.next (W' := W4) (by rw [hq]; exact below_drewN (Below.refl _ _) q))
  clear hq MY HNm
  have hdl := M4.out.last HD.out
  have hnk := box2 M4.out.nxt
  have hbk := box2 M4.out.bx
  obtain ⟨n0, n1, _, _⟩ := hnk
  obtain ⟨q0, q1, q2, q3⟩ := hbk
  have HLA := hide1 hdl
  clear hdl
  go_wp2
  generalize hX : World.setCell (World.setCell W4 ⟨rb, 0, none⟩ _) ⟨rb, 1, none⟩ _ = X
  rw [hX] at HLA
  obtain ⟨TL0, KX0⟩ := HLA.out
  have TL := hide1 TL0
  have KX := hide1 KX0
  have hC := tl_code TL.out
  have hAt := tl_at TL.out
  have hLe := tl_left TL.out
  obtain ⟨y0, y1, _, _⟩ := box2 TL.out.bx
  have y0 := bw_cell y0
  have y1 := bw_cell y1
  have hne : Nonempty (Bw X) := ⟨⟨X, Below.refl _ _⟩⟩
  have hkL := TL.out.tp.le
  have hLm := TL.out.len
  obtain ⟨r, hr⟩ : ∃ r, r = L - k' := ⟨_, rfl⟩
  rw [← hr] at hLe
  have hwr : IntKind.i64.wrap ((L : Int) - (k' : Int)) = (r : Int) := by rw [IntKind.wrap_i64]; omega
  have z1 : (code == code) = true := by simp
  have z2 : ((k' : Int) == (k' : Int)) = true := by simp
  have z3 : ((r : Int) == (r : Int)) = true := by simp
  clear hr hX TL0 KX0 HLA n0 n1 q0 q1 q2 q3 M4 hkL hLm
  refine wp_region_quiet_bw mixed (by kernel_rfl) ?_
  repeat (go_big_quiet_step (first | (go_at_call 17; exact bw_of (hC _).out) | (go_at_call 12; exact bw_of (hAt _).out) | (go_at_call 13; exact bw_of (hLe _).out)))
  refine wpQuiet_nil ?_
  intro w9 hw9
  obtain ⟨p, rfl⟩ := hw9
  go_wp2
  go_ret
  rw [EQ.out.1]
  exact TL.out.bw KX.out HD.out p

end Go.Proofs.YtdkakodlkbkhnaaDoor
