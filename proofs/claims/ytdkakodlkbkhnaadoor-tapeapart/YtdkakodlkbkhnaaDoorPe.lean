/- A call of both tapes, and what is asked behind it: Seed. -/
import Derived.Test.YtdkakodlkbkhnaaDoorPd
import Derived.Stop.BytesEq
namespace Go.Proofs.YtdkakodlkbkhnaaDoor
open Go.RowKit
set_option maxRecDepth 100000
attribute [local go_sem] not_any mf_any

theorem exec_load51 {w : World} {g : Nat} {cs : Array Value} {tmps : Array Value} {ds : List Deferred} {o : Oper} (hg : w.heap[g]? = some (.cells cs 51 (0, 0))) (hs : cs.size = 32) (ho : o.op = .load 51 (.tmp 21) := by rfl) (hx : Act.eval ⟨tmps, ds⟩ (.tmp 21) = .pointer (some ⟨g, 0, none⟩) := by rfl) :
    (execOp (Act.eval ⟨tmps, ds⟩) o).run Tryd.prog w = .ok (.value (.agg cs)) w := by
  have h := run_loadVar_row (P := Tryd.prog) w g 51 51 cs (0, 0) _ hg Tryd.underlying51 rfl (by rw [hs]; kernel_rfl)
  unfold execOp
  simp only [ho, hx, Instr.loadAt, Instr.sureAddr, Sem.run_bind, Sem.run_pure, Result.andThen_ok, h]

theorem u8s_cells {l : List Nat} (h : ∀ x ∈ l, x < 256) : u8s l = (l.map UInt8.ofNat).map Extern.Stop.cell := by
  unfold u8s
  rw [List.map_map]
  apply List.map_congr_left
  intro x hx
  have := h x hx
  simp [Extern.Stop.cell, Nat.mod_eq_of_lt this]
theorem sdP_lt (l : List Nat) : ∀ x ∈ sdP l, x < 256 := by
  intro x hx
  unfold sdP at hx
  obtain ⟨i, _, rfl⟩ := List.mem_map.1 hx
  exact Nat.mod_lt _ (by omega)
theorem eq_seed {l : List Nat} (hl : l.length = 32) (ht : ∀ x ∈ l, x < 256) (w : World) :
    (Op.equalIn 10000 51 (.agg (u8s l).toArray) (.agg (u8s l).toArray)).run Tryd.prog w = .ok true w := by
  rw [u8s_cells ht, run_equalIn_bytes w 9998 51 5 32 Tryd.underlying51 Tryd.underlying5 (fun w => by kernel_rfl) _ _ (by rw [List.length_map, hl]) (by rw [List.length_map, hl])]
  simp
theorem guard51 : Tryd.prog.eqGuardType Tryd.prog.depth 51 = false := by kernel_rfl

def Sd (w : World) (t b k' L : Nat) (code : Int) (cs : Array Value) (e : Ending) (w' : World) : Prop :=
  ∃ v, e = .returned (.tuple #[.agg cs, v]) ∧ IsE w' code v ∧ Tp w' t b k' L ∧ Kp (fun j _ => j = t) w w'
theorem sd {w0 w W : World} {t b rb k c L : Nat} {a : Option Addr} {ws : List Nat} (D : Dz w0 w t b rb k c L a ws) (hb : Below w.heap.size w W) :
    Hid (Calls Tryd.prog 15 #[.pointer (some ⟨t, 0, none⟩)] W (Sd W t b (takeK 4 k L) L (takeC 4 k L) (u8s (sdP (takeL 4 k ws))).toArray)) := by
  have e := D.wl
  subst e
  exact seed_any t b k ws W (D.tp.below hb D.tp.lt) ((hb.block _ (lt_of_heap D.row)).trans D.row) D.small D.len

set_option maxHeartbeats 8000000 in
theorem does4 (w0 w : World) (t b rb k c L : Nat) (a : Option Addr) (ws : List Nat) (n B : Int) (D : Dz w0 w t b rb k c L a ws) :
    Calls Tryd.prog 9 #[.pointer (some ⟨t, 0, none⟩), .pointer (some ⟨rb, 0, none⟩), .agg #[.int .i64 4, .int .i64 n, .int .i64 B]] w (DoPost w0 w t b rb (takeK 4 k L) c L a ws) := by
  have HLen : Shy ((takeL 4 k ws).length ≤ 1048576) := ⟨D.lens 4⟩
  have HSm := hide1 (small_take D.small 4 k)
  have HD := hide1 D
  obtain ⟨r0, r1, _, _⟩ := box2 D.box
  have hrl : rb < w.heap.size := lt_of_heap D.box
  have htl : t < w.heap.size := D.tp.lt
  have Hlt := hide1 (And.intro hrl htl)
  clear D
  go_enter Tryd.func9, Tryd.ntmps9
  go_wp2_with fail
  generalize hW : World.alloc (World.alloc w _) _ = W
  have wa : W.heap[w.heap.size]? = some (.cells #[.int .i64 4, .int .i64 n, .int .i64 B] 35 (0, 0)) := by rw [← hW]; exact heap_alloc2_old _ _ _
  have wn : W.heap[w.heap.size + 1]? = some (.cells #[.slice a L c, .int .i64 (k : Int)] 31 (0, 0)) := by rw [← hW]; exact heap_alloc2_new _ _ _
  have wb : Below w.heap.size w W := by rw [← hW]; exact ((Below.refl _ _).alloc (Nat.le_refl _) _).alloc (by simp) _
  have wz : W.heap.size = w.heap.size + 2 := by rw [← hW]; simp
  clear hW r0 r1
  have HT := sd HD.out wb
  obtain ⟨k', ek⟩ : ∃ k', takeK 4 k L = k' := ⟨_, rfl⟩
  obtain ⟨code, ec⟩ : ∃ code, takeC 4 k L = code := ⟨_, rfl⟩
  obtain ⟨l, el⟩ : ∃ l, takeL 4 k ws = l := ⟨_, rfl⟩
  rw [ek, ec, el] at HT
  rw [el] at HLen HSm
  have HEQ : Shy (∀ w, (Op.equalIn 10000 51 (.agg (u8s (sdP l)).toArray) (.agg (u8s (sdP l)).toArray)).run Tryd.prog w = .ok true w) := ⟨eq_seed (sdP_length l) (sdP_lt l)⟩
  obtain ⟨cs, hcs⟩ : ∃ cs, (u8s (sdP l)).toArray = cs := ⟨_, rfl⟩
  have HCS : Shy (cs.size = 32) := ⟨by rw [← hcs]; simp [u8s, sdP_length]⟩
  have HC1 : Shy (cs.all (·.oneCell') = true) := ⟨by rw [← hcs]; exact all_one (u8s_one _)⟩
  have HCD : Shy ((u8s (sdP l)).toArray = cs) := ⟨hcs⟩
  rw [hcs] at HT HEQ
  refine HT.out.mono ?_
  rintro e W2 ⟨v, rfl, h2, h3, h4⟩
  have M2 := hide1 (Md.first HD.out wa wn wb h4 h2 h3)
  have EQ : Shy (takeK 4 k L = k' ∧ takeC 4 k L = code ∧ takeL 4 k ws = l) := ⟨ek, ec, el⟩
  have hz2 : w.heap.size + 1 < W2.heap.size := lt_of_heap M2.out.nxt
  have HZ2 := hide1 hz2
  have HN := hide1 (World.alloc_heap_new W2 (row8 51 (zeros 32)))
  clear wa wn wb wz h2 h3 h4 HT ek ec el hz2 hcs
  go_upto_region 30 with (first | (refine wpList_store_own rfl 51 (.tmp 21) (.tmp 176) rfl W2.heap.size rfl cs rfl 51 _ HN.out (by rw [HCS.out]; kernel_rfl) (by rw [HCS.out]; exact zeros_size) HC1.out ?_) | fail)
  generalize hX : World.setRow (World.alloc W2 _) _ _ = X
  have x1 : X.heap[W2.heap.size]? = some (.cells cs 51 (0, 0)) := by rw [← hX]; exact setRow_heap _ _ _ _ _ _ HN.out
  have xb : Below W2.heap.size W2 X := by rw [← hX]; exact Below.setRow' ((Below.refl _ _).alloc (Nat.le_refl _) _) (Nat.le_refl _) _
  have MX := hide1 (M2.out.next xb)
  obtain ⟨bs, hbs⟩ : ∃ bs, W2.heap.size = bs := ⟨_, rfl⟩
  rw [hbs] at x1 HZ2 ⊢
  have X1 := hide1 x1
  have HRT := rtk HD.out (HD.out.to MX.out.kp) 4
  rw [EQ.out.1, EQ.out.2.1, EQ.out.2.2] at HRT
  obtain ⟨s0, s1, _, _⟩ := box2 MX.out.bx
  clear hX x1 xb hbs M2 HN
  go_wp2_with fail
  refine HRT.out.mono ?_
  rintro e W3 ⟨a6, m6, c6, rfl, ho6, hb6⟩
  have M3 := hide1 (MX.out.next hb6)
  have HO6 := hide1 ho6
  have r3 := (hb6.block _ (lt_of_heap X1.out)).trans X1.out
  have R3 := hide1 r3
  have hzX : w.heap.size + 1 < X.heap.size := lt_of_heap MX.out.nxt
  have HZX := hide1 hzX
  obtain ⟨x0, x1, x2, x3⟩ := box2 M3.out.nxt
  clear ho6 hb6 HRT s0 s1 r3 hzX
  go_upto_region 31 with (fail)
  generalize hY : World.setCell (World.setCell W3 _ _) _ _ = Y
  have M3' := M3.out.put Hlt.out.2 Hlt.out.1 k'
  rw [hY] at M3'
  have hYk : Kp (fun j _ => j = w.heap.size + 1) W3 Y := by rw [← hY]; exact ((Kp.refl _ _).setCell _ (fun _ _ => rfl) _).setCell _ (fun _ _ => rfl) _
  have ho := (HO6.out.kp hYk (fun j o hj => by rw [hj]; exact HZX.out)).nl
  have y1 : Y.heap[bs]? = some (.cells cs 51 (0, 0)) := hYk.same _ _ R3.out (by have := HZ2.out; omega)
  have hm6 : m6 ≤ 1048576 := by rw [← ho.len]; exact HLen.out
  have HRS := hide1 (rseed_any m6 c6 a6 l Y.drew (ho.drewN 1) HSm.out hm6)
  unfold arr8 at HRS
  rw [HCD.out] at HRS
  have HBL : Hid (bs < Y.drew.heap.size) := lt_of_heap y1
  have MY := hide1 M3'
  have Y1 := hide1 y1
  clear M3' hYk hY MX M3 HO6 x0 x1 x2 x3 ho y1 hm6 R3 X1
  refine region_f (F := []) (S := fun w' => w'.heap[bs]? = some (.cells cs 51 (0, 0))) mixed Y1.out (fun hS => ?_)
  refine take_f 0 186 (.agg cs) [3, 5, 6] rfl rfl (by kernel_rfl) (by kernel_rfl) (by kernel_rfl) (by kernel_rfl) (by kernel_rfl) (by kernel_rfl) (fun _ _ _ h => h) rfl (fun w hSw => by exact exec_load51 hSw HCS.out) hS ?_
  try simp only [List.setIfInBounds_toArray, List.set_cons_zero, List.set_cons_succ]
  refine take_p 1 187 (.slice a6 m6 c6) rfl rfl (by kernel_rfl) (by kernel_rfl) (by kernel_rfl) (fun _ _ _ h => h) rfl (fun w => by go_simp) ?_
  try simp only [List.setIfInBounds_toArray, List.set_cons_zero, List.set_cons_succ]
  refine take_p 4 190 (v) rfl rfl (by kernel_rfl) (by kernel_rfl) (by kernel_rfl) (fun _ _ _ h => h) rfl (fun w => by go_simp) ?_
  try simp only [List.setIfInBounds_toArray, List.set_cons_zero, List.set_cons_succ]
  refine ready_f 2 (o := { dst := some 188, op := Op.call { callee := Callee.value (Operand.func 23), args := #[Operand.tmp 187], argTypes := #[22] }, type := 51, pos := "law.go:57", after := #[{ on := 1, ground := Ground.data }], guard := none }) (by kernel_rfl) rfl (fun K hK => ?_)
  go_simp
  refine HRS.out.mono ?_
  rintro e W4 ⟨rfl, hb7⟩
  have HB7 := hide1 hb7
  clear hb7
  refine hK.out _ _ (fun _ h => (HB7.out.block bs HBL.out).trans h) ?_
  clear hK K
  try simp only [Act.put, List.setIfInBounds_toArray, List.set_cons_zero, List.set_cons_succ]
  refine take_p 3 189 (.bool true) rfl rfl (by kernel_rfl) (by kernel_rfl) (by kernel_rfl) (fun _ _ _ h => h) rfl (fun w => by have h1 := HEQ.out w; have h2 := guard51; go_simp) ?_
  try simp only [List.setIfInBounds_toArray, List.set_cons_zero, List.set_cons_succ]
  refine take_p 5 11 (.bool true) rfl rfl (by kernel_rfl) (by kernel_rfl) (by kernel_rfl) (fun _ _ _ h => h) rfl (fun w => by go_simp) ?_
  try simp only [List.setIfInBounds_toArray, List.set_cons_zero, List.set_cons_succ]
  refine take_p 6 9 (v) rfl rfl (by kernel_rfl) (by kernel_rfl) (by kernel_rfl) (fun _ _ _ h => h) rfl (fun w => by go_simp) ?_
  try simp only [List.setIfInBounds_toArray, List.set_cons_zero, List.set_cons_succ]
  refine done_f (by kernel_rfl) ?_ _
  have M4 := hide1 (MY.out.next (W' := W4) ((Below.refl _ _).drew.trans HB7.out))
  clear MY HB7 hS HRS Y1
  have hdl := M4.out.last HD.out
  have hnk := box2 M4.out.nxt
  have hbk := box2 M4.out.bx
  obtain ⟨n0, n1, _, _⟩ := hnk
  obtain ⟨q0, q1, q2, q3⟩ := hbk
  have HLA := hide1 hdl
  clear hdl
  go_wp2
  generalize hX : World.setCell (World.setCell W4 ⟨rb, 0, none⟩ _) ⟨rb, 1, none⟩ _ = X
  rw [hX] at HLA
  obtain ⟨TL0, KX0⟩ := HLA.out
  have TL := hide1 TL0
  have KX := hide1 KX0
  have hC := tl_code TL.out
  have hAt := tl_at TL.out
  have hLe := tl_left TL.out
  obtain ⟨y0, y1, _, _⟩ := box2 TL.out.bx
  have y0 := bw_cell y0
  have y1 := bw_cell y1
  have hne : Nonempty (Bw X) := ⟨⟨X, Below.refl _ _⟩⟩
  have hkL := TL.out.tp.le
  have hLm := TL.out.len
  obtain ⟨r, hr⟩ : ∃ r, r = L - k' := ⟨_, rfl⟩
  rw [← hr] at hLe
  have hwr : IntKind.i64.wrap ((L : Int) - (k' : Int)) = (r : Int) := by rw [IntKind.wrap_i64]; omega
  have z1 : (code == code) = true := by simp
  have z2 : ((k' : Int) == (k' : Int)) = true := by simp
  have z3 : ((r : Int) == (r : Int)) = true := by simp
  clear hr hX TL0 KX0 HLA n0 n1 q0 q1 q2 q3 M4 hkL hLm
  refine wp_region_quiet_bw mixed (by kernel_rfl) ?_
  repeat (go_big_quiet_step (first | (go_at_call 17; exact bw_of (hC _).out) | (go_at_call 12; exact bw_of (hAt _).out) | (go_at_call 13; exact bw_of (hLe _).out)))
  refine wpQuiet_nil ?_
  intro w9 hw9
  obtain ⟨p, rfl⟩ := hw9
  go_wp2
  go_ret
  rw [EQ.out.1]
  exact TL.out.bw KX.out HD.out p

end Go.Proofs.YtdkakodlkbkhnaaDoor
