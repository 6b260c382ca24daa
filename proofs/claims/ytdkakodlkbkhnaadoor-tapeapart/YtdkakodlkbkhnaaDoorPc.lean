/- A call of both tapes, and what is asked behind it: Next. -/
import Derived.Test.YtdkakodlkbkhnaaDoorPf
namespace Go.Proofs.YtdkakodlkbkhnaaDoor
open Go.RowKit
set_option maxRecDepth 100000
attribute [local go_sem] not_any mf_any

def Nx (w : World) (t b k' L : Nat) (code : Int) (x : Nat) (e : Ending) (w' : World) : Prop :=
  ∃ v, e = .returned (.tuple #[.int .u64 (x : Nat), v]) ∧ IsE w' code v ∧ Tp w' t b k' L ∧ Kp (fun j _ => j = t) w w'
theorem nx {w0 w W : World} {t b rb k c L : Nat} {a : Option Addr} {ws : List Nat} (D : Dz w0 w t b rb k c L a ws) (hb : Below w.heap.size w W) :
    Hid (Calls Tryd.prog 14 #[.pointer (some ⟨t, 0, none⟩)] W (Nx W t b (takeK 1 k L) L (takeC 1 k L) (at0 (takeL 1 k ws) 0))) := by
  have e := D.wl
  subst e
  exact (next_any t b k ws W (D.tp.below hb D.tp.lt) ((hb.block _ (lt_of_heap D.row)).trans D.row) D.len).mono fun _ _ ⟨x, v, h1, h2, h3⟩ => ⟨v, by rw [← h2]; exact h1, h3⟩
theorem take_one (k : Nat) (ws : List Nat) : takeL 1 k ws = [] ∨ ∃ x, takeL 1 k ws = [x] := by
  unfold takeL
  split
  · exact .inl rfl
  · split
    · exact .inl rfl
    · cases h : ws.drop k with
      | nil => exact .inl rfl
      | cons x r => exact .inr ⟨x, rfl⟩

set_option maxHeartbeats 8000000 in
theorem does1 (w0 w : World) (t b rb k c L : Nat) (a : Option Addr) (ws : List Nat) (n B : Int) (D : Dz w0 w t b rb k c L a ws) :
    Calls Tryd.prog 9 #[.pointer (some ⟨t, 0, none⟩), .pointer (some ⟨rb, 0, none⟩), .agg #[.int .i64 1, .int .i64 n, .int .i64 B]] w (DoPost w0 w t b rb (takeK 1 k L) c L a ws) := by
  have HON : Shy (takeL 1 k ws = [] ∨ ∃ x, takeL 1 k ws = [x]) := ⟨take_one k ws⟩
  have HD := hide1 D
  obtain ⟨r0, r1, _, _⟩ := box2 D.box
  have hrl : rb < w.heap.size := lt_of_heap D.box
  have htl : t < w.heap.size := D.tp.lt
  have Hlt := hide1 (And.intro hrl htl)
  clear D
  go_enter Tryd.func9, Tryd.ntmps9
  go_wp2_with fail
  generalize hW : World.alloc (World.alloc w _) _ = W
  have wa : W.heap[w.heap.size]? = some (.cells #[.int .i64 1, .int .i64 n, .int .i64 B] 35 (0, 0)) := by rw [← hW]; exact heap_alloc2_old _ _ _
  have wn : W.heap[w.heap.size + 1]? = some (.cells #[.slice a L c, .int .i64 (k : Int)] 31 (0, 0)) := by rw [← hW]; exact heap_alloc2_new _ _ _
  have wb : Below w.heap.size w W := by rw [← hW]; exact ((Below.refl _ _).alloc (Nat.le_refl _) _).alloc (by simp) _
  have wz : W.heap.size = w.heap.size + 2 := by rw [← hW]; simp
  clear hW r0 r1
  have HT := nx HD.out wb
  obtain ⟨k', ek⟩ : ∃ k', takeK 1 k L = k' := ⟨_, rfl⟩
  obtain ⟨code, ec⟩ : ∃ code, takeC 1 k L = code := ⟨_, rfl⟩
  obtain ⟨l, el⟩ : ∃ l, takeL 1 k ws = l := ⟨_, rfl⟩
  obtain ⟨x, ex⟩ : ∃ x, at0 l 0 = x := ⟨_, rfl⟩
  rw [ek, ec, el, ex] at HT
  rw [el] at HON
  refine HT.out.mono ?_
  rintro e W2 ⟨v, rfl, h2, h3, h4⟩
  have M2 := hide1 (Md.first HD.out wa wn wb h4 h2 h3)
  have EQ : Shy (takeK 1 k L = k' ∧ takeC 1 k L = code ∧ takeL 1 k ws = l) := ⟨ek, ec, el⟩
  have EX : Shy (at0 l 0 = x) := ⟨ex⟩
  have HRT := rtk HD.out (HD.out.to M2.out.kp) 1
  rw [ek, ec, el] at HRT
  obtain ⟨s0, s1, _, _⟩ := box2 M2.out.bx
  have WZ : Shy (W.heap.size = w.heap.size + 2) := ⟨wz⟩
  have hz2 : w.heap.size + 1 < W2.heap.size := lt_of_heap M2.out.nxt
  have HZ2 := hide1 hz2
  clear wa wn wb wz h2 h3 h4 HT ek ec el ex hz2
  go_wp2_with fail
  refine HRT.out.mono ?_
  rintro e W3 ⟨a6, m6, c6, rfl, ho6, hb6⟩
  have M3 := hide1 (M2.out.next hb6)
  have HO6 := hide1 ho6
  obtain ⟨x0, x1, x2, x3⟩ := box2 M3.out.nxt
  clear ho6 hb6 HRT s0 s1
  go_upto_region 15 with (fail)
  generalize hY : World.setCell (World.setCell W3 _ _) _ _ = W4
  have M3' := M3.out.put Hlt.out.2 Hlt.out.1 k'
  rw [hY] at M3'
  have hYk : Kp (fun j _ => j = w.heap.size + 1) W3 W4 := by rw [← hY]; exact ((Kp.refl _ _).setCell _ (fun _ _ => rfl) _).setCell _ (fun _ _ => rfl) _
  have ho := HO6.out.kp hYk (fun j o hj => by rw [hj]; exact HZ2.out)
  have M4 := hide1 M3'
  have hlen := ho.len
  clear M3' hYk hY M2 M3 HO6 x0 x1 x2 x3
  rcases HON.out with hl | ⟨y, hl⟩
  · subst hl
    obtain rfl : m6 = 0 := hlen.symm
    obtain rfl : x = 0 := EX.out.symm
    clear hlen ho
    rw [show ((0 : Nat) : Int) = 0 from rfl]
    have hdl := M4.out.last HD.out
    have hnk := box2 M4.out.nxt
    have hbk := box2 M4.out.bx
    obtain ⟨n0, n1, _, _⟩ := hnk
    obtain ⟨q0, q1, q2, q3⟩ := hbk
    have HLA := hide1 hdl
    clear hdl
    go_wp2
    generalize hX : World.setCell (World.setCell W4 ⟨rb, 0, none⟩ _) ⟨rb, 1, none⟩ _ = X
    rw [hX] at HLA
    obtain ⟨TL0, KX0⟩ := HLA.out
    have TL := hide1 TL0
    have KX := hide1 KX0
    have hC := tl_code TL.out
    have hAt := tl_at TL.out
    have hLe := tl_left TL.out
    obtain ⟨y0, y1, _, _⟩ := box2 TL.out.bx
    have y0 := bw_cell y0
    have y1 := bw_cell y1
    have hne : Nonempty (Bw X) := ⟨⟨X, Below.refl _ _⟩⟩
    have hkL := TL.out.tp.le
    have hLm := TL.out.len
    obtain ⟨r, hr⟩ : ∃ r, r = L - k' := ⟨_, rfl⟩
    rw [← hr] at hLe
    have hwr : IntKind.i64.wrap ((L : Int) - (k' : Int)) = (r : Int) := by rw [IntKind.wrap_i64]; omega
    have z1 : (code == code) = true := by simp
    have z2 : ((k' : Int) == (k' : Int)) = true := by simp
    have z3 : ((r : Int) == (r : Int)) = true := by simp
    clear hr hX TL0 KX0 HLA n0 n1 q0 q1 q2 q3 M4 hkL hLm
    refine wp_region_quiet_bw mixed (by kernel_rfl) ?_
    repeat (go_big_quiet_step (first | (go_at_call 17; exact bw_of (hC _).out) | (go_at_call 12; exact bw_of (hAt _).out) | (go_at_call 13; exact bw_of (hLe _).out)))
    refine wpQuiet_nil ?_
    intro w9 hw9
    obtain ⟨p, rfl⟩ := hw9
    go_wp2
    go_ret
    rw [EQ.out.1]
    exact TL.out.bw KX.out HD.out p

  · subst hl
    obtain rfl : m6 = 1 := hlen.symm
    obtain ⟨g6, rfl, _, hcw, _⟩ := ho.get (j := 0) (by omega)
    rw [EX.out] at hcw
    clear hlen ho
    have hdl := M4.out.last HD.out
    have hnk := box2 M4.out.nxt
    have hbk := box2 M4.out.bx
    obtain ⟨n0, n1, _, _⟩ := hnk
    obtain ⟨q0, q1, q2, q3⟩ := hbk
    have HLA := hide1 hdl
    clear hdl
    go_wp2
    generalize hX : World.setCell (World.setCell W4 ⟨rb, 0, none⟩ _) ⟨rb, 1, none⟩ _ = X
    rw [hX] at HLA
    obtain ⟨TL0, KX0⟩ := HLA.out
    have TL := hide1 TL0
    have KX := hide1 KX0
    have hC := tl_code TL.out
    have hAt := tl_at TL.out
    have hLe := tl_left TL.out
    obtain ⟨y0, y1, _, _⟩ := box2 TL.out.bx
    have y0 := bw_cell y0
    have y1 := bw_cell y1
    have hne : Nonempty (Bw X) := ⟨⟨X, Below.refl _ _⟩⟩
    have hkL := TL.out.tp.le
    have hLm := TL.out.len
    obtain ⟨r, hr⟩ : ∃ r, r = L - k' := ⟨_, rfl⟩
    rw [← hr] at hLe
    have hwr : IntKind.i64.wrap ((L : Int) - (k' : Int)) = (r : Int) := by rw [IntKind.wrap_i64]; omega
    have z1 : (code == code) = true := by simp
    have z2 : ((k' : Int) == (k' : Int)) = true := by simp
    have z3 : ((r : Int) == (r : Int)) = true := by simp
    clear hr hX TL0 KX0 HLA n0 n1 q0 q1 q2 q3 M4 hkL hLm
    refine wp_region_quiet_bw mixed (by kernel_rfl) ?_
    repeat (go_big_quiet_step (first | (go_at_call 17; exact bw_of (hC _).out) | (go_at_call 12; exact bw_of (hAt _).out) | (go_at_call 13; exact bw_of (hLe _).out)))
    refine wpQuiet_nil ?_
    intro w9 hw9
    obtain ⟨p, rfl⟩ := hw9
    go_wp2
    go_ret
    rw [EQ.out.1]
    exact TL.out.bw KX.out HD.out p

end Go.Proofs.YtdkakodlkbkhnaaDoor
