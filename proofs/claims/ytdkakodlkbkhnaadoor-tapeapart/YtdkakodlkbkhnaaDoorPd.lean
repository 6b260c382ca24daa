/- A call of both tapes, and what is asked behind it: Bits. -/
import Derived.Test.YtdkakodlkbkhnaaDoorPc
namespace Go.Proofs.YtdkakodlkbkhnaaDoor
open Go.RowKit
set_option maxRecDepth 100000
attribute [local go_sem] not_any mf_any

def Bt (w : World) (t b k' L : Nat) (code : Int) (l : List Nat) (e : Ending) (w' : World) : Prop :=
  ∃ a m c v, e = .returned (.tuple #[.slice a m c, v]) ∧ Bl w' m a (l.map odd) ∧ IsE w' code v ∧ Tp w' t b k' L ∧ Kp (fun j _ => j = t) w w'
theorem bt {w0 w W : World} {t b rb k c L : Nat} {a : Option Addr} {ws : List Nat} (D : Dz w0 w t b rb k c L a ws) (hb : Below w.heap.size w W) (n : Int) :
    Hid (Calls Tryd.prog 16 #[.pointer (some ⟨t, 0, none⟩), .int .i64 n] W (Bt W t b (takeK n k L) L (takeC n k L) (takeL n k ws))) := by
  have e := D.wl
  subst e
  exact bits_any t b k n ws W (D.tp.below hb D.tp.lt) ((hb.block _ (lt_of_heap D.row)).trans D.row) D.small D.len
theorem Bl.put {W : World} {m g : Nat} {a : Option Addr} {l : List Bool} {s : Option Addr} {i j : Nat} {z : Int} (h : Bl W m a l) (hg : W.heap[g]? = some (.cells #[.slice s i j, .int .i64 z] 31 (0, 0))) (p q : Value) : Bl ((W.setCell ⟨g, 0, none⟩ p).setCell ⟨g, 1, none⟩ q) m a l :=
  ⟨h.len, fun j x hj => by
    obtain ⟨g', o, h1, h2⟩ := h.at' j x hj
    refine ⟨g', o, h1, ?_⟩
    have hne : g' ≠ g := by
      rintro rfl
      rw [cell_of_row W g' _ _ 31 (0, 0) hg] at h2
      match o + j, h2 with
      | 0, h2 => simp at h2
      | 1, h2 => simp at h2
      | n + 2, h2 => simp at h2
    rw [World.cell?_of_block (w := W) (keep2 hne)]
    exact h2⟩
theorem Bl.val {w : World} {m : Nat} {a : Option Addr} {l : List Nat} (h : Bl w m a (l.map odd)) {k : Nat} (hk : k < m) : ∃ g o, a = some ⟨g, o, none⟩ ∧ w.cell? ⟨g, o + k, none⟩ = some (.bool (odd (at0 l k))) := by
  have hl : k < l.length := by have := h.len; rw [List.length_map] at this; omega
  obtain ⟨g, o, h1, h2⟩ := h.at' k (odd (at0 l k)) (by rw [List.getElem?_map, get_at0 hl]; rfl)
  exact ⟨g, o, h1, h2⟩

set_option maxHeartbeats 8000000 in
theorem does3 (w0 w : World) (t b rb k c L : Nat) (a : Option Addr) (ws : List Nat) (n B : Int) (D : Dz w0 w t b rb k c L a ws) :
    Calls Tryd.prog 9 #[.pointer (some ⟨t, 0, none⟩), .pointer (some ⟨rb, 0, none⟩), .agg #[.int .i64 3, .int .i64 n, .int .i64 B]] w (DoPost w0 w t b rb (takeK n k L) c L a ws) := by
  have HLen : Shy ((takeL n k ws).length ≤ 1048576) := ⟨D.lens n⟩
  have HSm := hide1 (small_take D.small n k)
  have HD := hide1 D
  obtain ⟨r0, r1, _, _⟩ := box2 D.box
  have hrl : rb < w.heap.size := lt_of_heap D.box
  have htl : t < w.heap.size := D.tp.lt
  have Hlt := hide1 (And.intro hrl htl)
  clear D
  go_enter Tryd.func9, Tryd.ntmps9
  go_wp2_with fail
  generalize hW : World.alloc (World.alloc w _) _ = W
  have wa : W.heap[w.heap.size]? = some (.cells #[.int .i64 3, .int .i64 n, .int .i64 B] 35 (0, 0)) := by rw [← hW]; exact heap_alloc2_old _ _ _
  have wn : W.heap[w.heap.size + 1]? = some (.cells #[.slice a L c, .int .i64 (k : Int)] 31 (0, 0)) := by rw [← hW]; exact heap_alloc2_new _ _ _
  have wb : Below w.heap.size w W := by rw [← hW]; exact ((Below.refl _ _).alloc (Nat.le_refl _) _).alloc (by simp) _
  have wz : W.heap.size = w.heap.size + 2 := by rw [← hW]; simp
  clear hW r0 r1
  have HT := bt HD.out wb n
  obtain ⟨k', ek⟩ : ∃ k', takeK n k L = k' := ⟨_, rfl⟩
  obtain ⟨code, ec⟩ : ∃ code, takeC n k L = code := ⟨_, rfl⟩
  obtain ⟨l, el⟩ : ∃ l, takeL n k ws = l := ⟨_, rfl⟩
  rw [ek, ec, el] at HT
  rw [el] at HLen HSm
  refine HT.out.mono ?_
  rintro e W2 ⟨al, m, cl, v, rfl, h1, h2, h3, h4⟩
  have M2 := hide1 (Md.first HD.out wa wn wb h4 h2 h3)
  have HO := hide1 h1
  have EQ : Shy (takeK n k L = k' ∧ takeC n k L = code ∧ takeL n k ws = l) := ⟨ek, ec, el⟩
  have hz2 : w.heap.size + 1 < W2.heap.size := lt_of_heap M2.out.nxt
  have HZ2 := hide1 hz2
  clear wa wn wb wz h1 h2 h3 h4 HT ek ec el hz2
  go_wp2_with fail
  obtain ⟨s0, s1, _, _⟩ := box2 M2.out.bx
  obtain ⟨_, s2, s3⟩ := act3 M2.out.ac
  have HRT := rtk HD.out (HD.out.to M2.out.kp).drew n
  rw [EQ.out.1, EQ.out.2.1, EQ.out.2.2] at HRT
  refine region_f (F := [5, 10]) (S := fun w' => w'.cell? ⟨rb, 0, none⟩ = some (.slice a L c) ∧ w'.cell? ⟨rb, 1, none⟩ = some (.int .i64 (k : Int)) ∧ w'.cell? ⟨w.heap.size, 1, none⟩ = some (.int .i64 n) ∧ w'.cell? ⟨w.heap.size, 2, none⟩ = some (.int .i64 B)) mixed ⟨s0, s1, s2, s3⟩ (fun hS => ?_)
  refine take_p 0 136 (.pointer (some ⟨rb, 0, none⟩)) rfl rfl (by kernel_rfl) (by kernel_rfl) (by kernel_rfl) (fun _ _ _ h => h) rfl (fun w => by go_simp) ?_
  try simp only [List.setIfInBounds_toArray, List.set_cons_zero, List.set_cons_succ]
  refine take_p 1 137 (.pointer (some ⟨rb, 0, none⟩)) rfl rfl (by kernel_rfl) (by kernel_rfl) (by kernel_rfl) (fun _ _ _ h => h) rfl (fun w => by go_simp) ?_
  try simp only [List.setIfInBounds_toArray, List.set_cons_zero, List.set_cons_succ]
  refine take_f 2 138 (.agg #[.slice a L c, .int .i64 (k : Int)]) [5, 6, 7, 8, 9, 10, 11, 12] rfl rfl (by kernel_rfl) (by kernel_rfl) (by kernel_rfl) (by kernel_rfl) (by kernel_rfl) (by kernel_rfl) (fun _ _ _ h => h) rfl (fun w hSw => by have h0 := hSw.1; have h1 := hSw.2.1; clear hSw; go_simp) hS ?_
  try simp only [List.setIfInBounds_toArray, List.set_cons_zero, List.set_cons_succ]
  refine take_p 3 139 (.pointer (some ⟨w.heap.size, 1, none⟩)) rfl rfl (by kernel_rfl) (by kernel_rfl) (by kernel_rfl) (fun _ _ _ h => h) rfl (fun w => by go_simp) ?_
  try simp only [List.setIfInBounds_toArray, List.set_cons_zero, List.set_cons_succ]
  refine take_f 4 140 (.int .i64 n) [5, 6, 7, 8, 9, 10, 11, 12] rfl rfl (by kernel_rfl) (by kernel_rfl) (by kernel_rfl) (by kernel_rfl) (by kernel_rfl) (by kernel_rfl) (fun _ _ _ h => h) rfl (fun w hSw => by have h0 := hSw.2.2.1; clear hSw; go_simp) hS ?_
  try simp only [List.setIfInBounds_toArray, List.set_cons_zero, List.set_cons_succ]
  refine ready_f 5 (o := { dst := some 141, op := Op.call { callee := Callee.value (Operand.func 20), args := #[Operand.tmp 138, Operand.tmp 140], argTypes := #[33, 3] }, type := 62, pos := "law.go:49", after := #[{ on := 2, ground := Ground.data }, { on := 4, ground := Ground.data }], guard := none }) (by kernel_rfl) rfl (fun K hK => ?_)
  go_simp
  refine HRT.out.mono ?_
  rintro e W3 ⟨a6, m6, c6, rfl, ho6, hb6⟩
  have M3 := hide1 (M2.out.next ((Below.refl _ _).drew.trans hb6))
  have HO6 := hide1 ho6
  have HB6 := hide1 hb6
  clear ho6 hb6
  refine hK.out _ _ (fun h => absurd (by decide) h) ?_
  clear hK K
  try simp only [Act.put, List.setIfInBounds_toArray, List.set_cons_zero, List.set_cons_succ]
  refine take_p 6 135 (.tuple #[.agg #[.slice a L c, .int .i64 (k' : Int)], .slice a6 m6 c6, .int .i64 code]) rfl rfl (by kernel_rfl) (by kernel_rfl) (by kernel_rfl) (fun _ _ _ h => h) rfl (fun w => by go_simp) ?_
  try simp only [List.setIfInBounds_toArray, List.set_cons_zero, List.set_cons_succ]
  refine take_p 7 142 (.agg #[.slice a L c, .int .i64 (k' : Int)]) rfl rfl (by kernel_rfl) (by kernel_rfl) (by kernel_rfl) (fun _ _ _ h => h) rfl (fun w => by go_simp) ?_
  try simp only [List.setIfInBounds_toArray, List.set_cons_zero, List.set_cons_succ]
  refine take_p 8 143 (.slice a6 m6 c6) rfl rfl (by kernel_rfl) (by kernel_rfl) (by kernel_rfl) (fun _ _ _ h => h) rfl (fun w => by go_simp) ?_
  try simp only [List.setIfInBounds_toArray, List.set_cons_zero, List.set_cons_succ]
  refine take_p 9 144 (.int .i64 code) rfl rfl (by kernel_rfl) (by kernel_rfl) (by kernel_rfl) (fun _ _ _ h => h) rfl (fun w => by go_simp) ?_
  try simp only [List.setIfInBounds_toArray, List.set_cons_zero, List.set_cons_succ]
  obtain ⟨x0, x1, x2, x3⟩ := box2 M3.out.nxt
  refine ready_f 10 (o := { dst := none, op := Op.store 31 (Operand.tmp 7) (Operand.tmp 142), type := 0, pos := "law.go:49", after := #[{ on := 7, ground := Ground.data }, { on := 5, ground := Ground.chain }, { on := 0, ground := Ground.phase }, { on := 1, ground := Ground.phase }, { on := 2, ground := Ground.phase }, { on := 3, ground := Ground.phase }, { on := 4, ground := Ground.phase }, { on := 5, ground := Ground.phase }, { on := 6, ground := Ground.phase }, { on := 7, ground := Ground.phase }, { on := 8, ground := Ground.textOnly Departure.lateStores }, { on := 9, ground := Ground.textOnly Departure.lateStores }], guard := none }) (by kernel_rfl) rfl (fun K hK => ?_)
  go_simp
  refine hK.out _ _ (fun h => absurd (by decide) h) ?_
  clear hK K
  refine take_p 11 10 (.slice a6 m6 c6) rfl rfl (by kernel_rfl) (by kernel_rfl) (by kernel_rfl) (fun _ _ _ h => h) rfl (fun w => by go_simp) ?_
  try simp only [List.setIfInBounds_toArray, List.set_cons_zero, List.set_cons_succ]
  refine take_p 12 8 (.int .i64 code) rfl rfl (by kernel_rfl) (by kernel_rfl) (by kernel_rfl) (fun _ _ _ h => h) rfl (fun w => by go_simp) ?_
  try simp only [List.setIfInBounds_toArray, List.set_cons_zero, List.set_cons_succ]
  refine done_f (by kernel_rfl) ?_ _
  generalize hY : World.setCell (World.setCell W3 _ _) _ _ = Y
  have M3' := M3.out.put Hlt.out.2 Hlt.out.1 k'
  rw [hY] at M3'
  have hYk : Kp (fun j _ => j = w.heap.size + 1) W3 Y := by rw [← hY]; exact ((Kp.refl _ _).setCell _ (fun _ _ => rfl) _).setCell _ (fun _ _ => rfl) _
  have hn1 := (HO.out.next ((Below.refl _ _).drew.trans HB6.out)).put M3.out.nxt (.slice a L c) (.int .i64 (k' : Int))
  rw [hY] at hn1
  have hn2 := (HO6.out.kp hYk (fun j o hj => by rw [hj]; exact HZ2.out)).nl
  obtain rfl : m6 = m := by rw [← hn2.len, ← hn1.len, List.length_map]
  have MY := hide1 M3'
  have N1 := hide1 hn1
  have N2 := hide1 hn2
  have hm6 : m6 ≤ 1048576 := by rw [← hn2.len]; exact HLen.out
  have HM6 : Shy (m6 ≤ 1048576) := ⟨hm6⟩
  clear M3' hYk hn1 hn2 hY M2 M3 HO HO6 HB6 x0 x1 x2 x3 s0 s1 s2 s3 hS HRT hm6
  have hmm : ((m6 : Int) == (m6 : Int)) = true := by simp
  go_wp2
  go_loopw [11, 20] (fun ok i wr => ∃ j q : Nat, j ≤ m6 ∧ ok = .bool true ∧ i = .int .i64 (j : Int) ∧ wr = Y.drewN q) (fun _ i _ => m6 - (intOf i).toNat)
  case atStart => exact ⟨0, 0, Nat.zero_le _, rfl, rfl, rfl⟩
  case round =>
    obtain ⟨j, q, hj, rfl, rfl, rfl⟩ := hrel
    have hmi := HM6.out
    by_cases hlt : j < m6
    · obtain ⟨ga, oa, rfl, hca⟩ := N1.out.val hlt
      obtain ⟨gb, ob, rfl, hcb⟩ := N2.out.val hlt
      have hxl := HSm.out.at0 j
      generalize at0 l j = x at *
      have hca' : (Y.drewN q).cell? ⟨ga, oa + j, none⟩ = some (.bool (odd x)) := hca
      have hcb' : (Y.drewN q).cell? ⟨gb, ob + j, none⟩ = some (.int .u64 (x : Nat)) := hcb
      obtain ⟨V, hV⟩ : ∃ V, Y.drewN q = V := ⟨_, rfl⟩
      rw [hV] at hca' hcb' ⊢
      have HV : Shy (Y.drewN q = V) := ⟨hV⟩
      clear hV hca hcb hxl
      by_cases hodd : x % 2 = 1
      · have ho1 : odd x = true := decide_eq_true hodd
        have ho2 : ((x : Int) % 2 == 1) = true := by rw [beq_iff_eq]; omega
        have ho3 : (x : Int) % 2 = 1 := by omega
        have ho4 : Int.tmod (x : Int) 2 = 1 := by rw [show Int.tmod (x : Int) 2 = ((x % 2 : Nat) : Int) from rfl, hodd]; rfl
        clear hodd
        go_wp2
        go_quiet (fail)
        go_wp2
        exact ⟨⟨j + 1, q + nq, by omega, rfl, by go_num, by rw [← HV.out]; exact World.drewN_drewN _ _ _⟩, by simp [intOf]; omega⟩
      · have hodd0 : x % 2 = 0 := by omega
        have ho1 : odd x = false := decide_eq_false hodd
        have ho3 : (x : Int) % 2 = 0 := by omega
        have ho4 : Int.tmod (x : Int) 2 = 0 := by rw [show Int.tmod (x : Int) 2 = ((x % 2 : Nat) : Int) from rfl, hodd0]; rfl
        clear hodd hodd0
        go_wp2
        go_quiet (fail)
        go_wp2
        exact ⟨⟨j + 1, q + nq, by omega, rfl, by go_num, by rw [← HV.out]; exact World.drewN_drewN _ _ _⟩, by simp [intOf]; omega⟩
    · have : j = m6 := by omega
      subst this
      obtain ⟨W4, hW4⟩ : ∃ W4, Y.drewN q = W4 := ⟨_, rfl⟩
      rw [hW4]
      have M4 := hide1 (MY.out.next (W' := W4) (by rw [← hW4]; exact below_drewN (Below.refl _ _) q))
      clear hW4 MY N1 N2
      have hdl := M4.out.last HD.out
      have hnk := box2 M4.out.nxt
      have hbk := box2 M4.out.bx
      obtain ⟨n0, n1, _, _⟩ := hnk
      obtain ⟨q0, q1, q2, q3⟩ := hbk
      have HLA := hide1 hdl
      clear hdl
      go_wp2
      generalize hX : World.setCell (World.setCell W4 ⟨rb, 0, none⟩ _) ⟨rb, 1, none⟩ _ = X
      rw [hX] at HLA
      obtain ⟨TL0, KX0⟩ := HLA.out
      have TL := hide1 TL0
      have KX := hide1 KX0
      have hC := tl_code TL.out
      have hAt := tl_at TL.out
      have hLe := tl_left TL.out
      obtain ⟨y0, y1, _, _⟩ := box2 TL.out.bx
      have y0 := bw_cell y0
      have y1 := bw_cell y1
      have hne : Nonempty (Bw X) := ⟨⟨X, Below.refl _ _⟩⟩
      have hkL := TL.out.tp.le
      have hLm := TL.out.len
      obtain ⟨r, hr⟩ : ∃ r, r = L - k' := ⟨_, rfl⟩
      rw [← hr] at hLe
      have hwr : IntKind.i64.wrap ((L : Int) - (k' : Int)) = (r : Int) := by rw [IntKind.wrap_i64]; omega
      have z1 : (code == code) = true := by simp
      have z2 : ((k' : Int) == (k' : Int)) = true := by simp
      have z3 : ((r : Int) == (r : Int)) = true := by simp
      clear hr hX TL0 KX0 HLA n0 n1 q0 q1 q2 q3 M4 hkL hLm
      refine wp_region_quiet_bw mixed (by kernel_rfl) ?_
      repeat (go_big_quiet_step (first | (go_at_call 17; exact bw_of (hC _).out) | (go_at_call 12; exact bw_of (hAt _).out) | (go_at_call 13; exact bw_of (hLe _).out)))
      refine wpQuiet_nil ?_
      intro w9 hw9
      obtain ⟨p, rfl⟩ := hw9
      go_wp2
      go_ret
      rw [EQ.out.1]
      exact TL.out.bw KX.out HD.out p

end Go.Proofs.YtdkakodlkbkhnaaDoor
