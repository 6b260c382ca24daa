/- A call of both networks, by its kind. -/
import Derived.Test.YtfnedohampmnoaaYl
namespace Go.Proofs.Ytfnedohampmnoaa
open Go.RowKit
set_option maxRecDepth 100000
attribute [local go_sem] not_any

theorem box_act {w : World} {g : Nat} {kd q i k : Int} {s : ByteArray} {b : Nat} {ty : TypeId} (h : w.heap[g]? = some (.cells #[.int .i64 kd, .int .i64 q, .int .i64 i, .int .i64 k, .string s, .int .u8 (b : Int)] ty (0, 0))) : A6 w g 0 kd q i k s b ∧ g < w.heap.size :=
  ⟨⟨by rw [cell_of_row w g _ _ _ _ h]; rfl, by rw [cell_of_row w g _ _ _ _ h]; rfl, by rw [cell_of_row w g _ _ _ _ h]; rfl, by rw [cell_of_row w g _ _ _ _ h]; rfl, by rw [cell_of_row w g _ _ _ _ h]; rfl, by rw [cell_of_row w g _ _ _ _ h]; rfl⟩, lt_heap h⟩

set_option maxHeartbeats 4000000 in
theorem does_0 {B t r : Nat} {x y : Nat → Value} {N : Nat → List ByteArray} {w : World} (h : Tr B t r 27 x y N N w) (hs : Sm N) (q i k : Int) (s : ByteArray) (b : Nat) (_ : b < 256) :
    Calls Try.prog 7 #[.pointer (some ⟨t, 0, none⟩), .pointer (some ⟨r, 0, none⟩), .agg #[.int .i64 0, .int .i64 q, .int .i64 i, .int .i64 k, .string s, .int .u8 (b : Int)]] w fun e w' => e = .returned (.bool true) ∧ ∃ x' y', Tr B t r 27 x' y' (sndN N q s) (sndN N q s) w' ∧ Below B w w' := by
  have T0 := hide1 h
  have SS := hide1 hs
  obtain ⟨a0, c0, hy0⟩ := (h.own 0 (by omega)).form
  obtain ⟨a1, c1, hy1⟩ := (h.own 1 (by omega)).form
  obtain ⟨n0, hn0⟩ : ∃ n0, (N 0).length = n0 := ⟨_, rfl⟩
  obtain ⟨n1, hn1⟩ : ∃ n1, (N 1).length = n1 := ⟨_, rfl⟩
  rw [hn0] at hy0
  rw [hn1] at hy1
  have HY0 := hide1 hy0
  have HY1 := hide1 hy1
  have hrow := h.row
  rw [hy0, hy1] at hrow
  have HRW := hide1 hrow
  have hA : Below w.heap.size w (w.alloc (.cells #[.int .i64 0, .int .i64 q, .int .i64 i, .int .i64 k, .string s, .int .u8 (b : Int)] 29)) := below1 _
  obtain ⟨d0, d1, _, _, _⟩ := box2 ((hA.block r (lt_heap hrow)).trans hrow)
  have LB : Hid (B ≤ w.heap.size ∧ t < w.heap.size ∧ r < w.heap.size) := ⟨by have := h.net.low; have := lt_heap h.net.row; omega, lt_heap h.net.row, lt_heap hrow⟩
  have L0 : ∀ W, Below w.heap.size w W → Lst 0 W (.slice a0 n0 c0) (N 0) := fun W hb => hy0 ▸ ((h.below hb).own 0 (by omega)).mono (Nat.zero_le _)
  have L1 : ∀ W, Below w.heap.size w W → Lst 0 W (.slice a1 n1 c1) (N 1) := fun W hb => hy1 ▸ ((h.below hb).own 1 (by omega)).mono (Nat.zero_le _)
  have kR := hide1 (fun W (hb : Below w.heap.size w W) => rsend_any (L0 W hb) (L1 W hb) q s)
  have kC := hide1 (fun W (hb : Below w.heap.size w W) => send_any (h.below hb).net q s)
  generalize snd N q s = cc at *
  generalize sndN N q s = N' at *
  clear h hs hy0 hy1 hn0 hn1 hrow hA L0 L1
  go_enter Try.func7, Try.ntmps7
  go_upto_region 10 with (fail)
  have h2 := two_new w (.cells #[.int .i64 0, .int .i64 q, .int .i64 i, .int .i64 k, .string s, .int .u8 (b : Int)] 29) (.cells #[.slice a0 n0 c0, .slice a1 n1 c1] 27)
  have hB2 := below2 (w := w) (.cells #[.int .i64 0, .int .i64 q, .int .i64 i, .int .i64 k, .string s, .int .u8 (b : Int)] 29) (.cells #[.slice a0 n0 c0, .slice a1 n1 c1] 27)
  clear d0 d1
  generalize (w.alloc _).alloc _ = W1 at h2 hB2 ⊢
  have B1 := hide1 hB2
  obtain ⟨ab, hab⟩ : ∃ ab, w.heap.size = ab := ⟨_, rfl⟩
  obtain ⟨nb, hnb⟩ : ∃ nb, w.heap.size + 1 = nb := ⟨_, rfl⟩
  have HS : Hid (w.heap.size = ab ∧ ab + 1 = nb) := ⟨hab, by omega⟩
  rw [hnb, hab] at h2
  rw [hnb, hab]
  have RA := hide1 h2.1
  have RN := hide1 h2.2
  clear hab hnb h2 hB2
  have RR := hide1 ((B1.out.block r (lt_heap HRW.out)).trans HRW.out)
  have CA1 : Hid (W1.cell? ⟨ab, 1, none⟩ = some (.int .i64 q)) := by
    show W1.cell? ⟨ab, 1, none⟩ = _
    rw [cell_of_row W1 ab 1 _ _ _ RA.out]
    rfl
  have CA4 : Hid (W1.cell? ⟨ab, 4, none⟩ = some (.string s)) := by
    show W1.cell? ⟨ab, 4, none⟩ = _
    rw [cell_of_row W1 ab 4 _ _ _ RA.out]
    rfl
  refine region_f (F := [7, 11]) (S := fun W => W.cell? ⟨r, 0, none⟩ = some (.slice a0 n0 c0) ∧ W.cell? ⟨r, 1, none⟩ = some (.slice a1 n1 c1) ∧ r < W.heap.size ∧ ab < W.heap.size ∧ W.cell? ⟨ab, 1, none⟩ = some (.int .i64 q) ∧ W.cell? ⟨ab, 4, none⟩ = some (.string s)) (by kernel_rfl) ⟨(box2 RR.out).1, (box2 RR.out).2.1, (box2 RR.out).2.2.2.2, lt_heap RA.out, CA1.out, CA4.out⟩ (fun hS => ?_)
  generalize hU : World.drew W1 = U at hS ⊢
  have RA : Hid (U.heap[ab]? = some (.cells #[.int .i64 0, .int .i64 q, .int .i64 i, .int .i64 k, .string s, .int .u8 (b : Int)] 29 (0, 0))) := by rw [← hU]; exact RA.out
  have RN : Hid (U.heap[nb]? = some (.cells #[.slice a0 n0 c0, .slice a1 n1 c1] 27 (0, 0))) := by rw [← hU]; exact RN.out
  have B1 : Hid (Below w.heap.size w U) := by rw [← hU]; exact B1.out.drew
  clear hU RR
  refine take_p 0 42 (.pointer (some ⟨r, 0, none⟩)) rfl rfl (by kernel_rfl) (by kernel_rfl) (by kernel_rfl) (fun _ _ _ h => h) rfl (fun w => by go_simp) ?_
  try simp only [List.setIfInBounds_toArray, List.set_cons_zero, List.set_cons_succ]
  refine take_p 1 43 (.pointer (some ⟨r, 0, none⟩)) rfl rfl (by kernel_rfl) (by kernel_rfl) (by kernel_rfl) (fun _ _ _ h => h) rfl (fun w => by go_simp) ?_
  try simp only [List.setIfInBounds_toArray, List.set_cons_zero, List.set_cons_succ]
  refine take_f 2 44 (.agg #[.slice a0 n0 c0, .slice a1 n1 c1]) [7, 8, 9, 10, 11, 12] rfl rfl (by kernel_rfl) (by kernel_rfl) (by kernel_rfl) (by kernel_rfl) (by kernel_rfl) (by kernel_rfl) (fun _ _ _ h => h) rfl (fun w hSw => by obtain ⟨g0, g1, g2, g3, g4, g5⟩ := hSw; go_simp) hS ?_
  try simp only [List.setIfInBounds_toArray, List.set_cons_zero, List.set_cons_succ]
  refine take_p 3 45 (.pointer (some ⟨ab, 1, none⟩)) rfl rfl (by kernel_rfl) (by kernel_rfl) (by kernel_rfl) (fun _ _ _ h => h) rfl (fun w => by go_simp) ?_
  try simp only [List.setIfInBounds_toArray, List.set_cons_zero, List.set_cons_succ]
  refine take_f 4 46 (.int .i64 q) [7, 8, 9, 10, 11, 12] rfl rfl (by kernel_rfl) (by kernel_rfl) (by kernel_rfl) (by kernel_rfl) (by kernel_rfl) (by kernel_rfl) (fun _ _ _ h => h) rfl (fun w hSw => by obtain ⟨g0, g1, g2, g3, g4, g5⟩ := hSw; go_simp) hS ?_
  try simp only [List.setIfInBounds_toArray, List.set_cons_zero, List.set_cons_succ]
  refine take_p 5 47 (.pointer (some ⟨ab, 4, none⟩)) rfl rfl (by kernel_rfl) (by kernel_rfl) (by kernel_rfl) (fun _ _ _ h => h) rfl (fun w => by go_simp) ?_
  try simp only [List.setIfInBounds_toArray, List.set_cons_zero, List.set_cons_succ]
  refine take_f 6 48 (.string s) [7, 8, 9, 10, 11, 12] rfl rfl (by kernel_rfl) (by kernel_rfl) (by kernel_rfl) (by kernel_rfl) (by kernel_rfl) (by kernel_rfl) (fun _ _ _ h => h) rfl (fun w hSw => by obtain ⟨g0, g1, g2, g3, g4, g5⟩ := hSw; go_simp) hS ?_
  try simp only [List.setIfInBounds_toArray, List.set_cons_zero, List.set_cons_succ]
  refine ready_f 7 (o := { dst := some 49, op := Op.call { callee := Callee.value (Operand.func 21), args := #[Operand.tmp 44, Operand.tmp 46, Operand.tmp 48], argTypes := #[31, 3, 9] }, type := 52, pos := "law.go:37", after := #[{ on := 2, ground := Ground.data }, { on := 4, ground := Ground.data }, { on := 6, ground := Ground.data }], guard := none }) (by kernel_rfl) rfl (fun K hK => ?_)
  go_simp
  refine (kR.out U B1.out).mono ?_
  rintro e U2 ⟨z0, z1, rfl, an⟩
  refine hK.out _ _ (fun h => absurd (by decide) h) ?_
  clear hK K
  try simp only [Act.put, List.setIfInBounds_toArray, List.set_cons_zero, List.set_cons_succ]
  obtain ⟨az0, cz0, rfl⟩ := an.l0.form
  obtain ⟨az1, cz1, rfl⟩ := an.l1.form
  rw [← HY0.out, ← HY1.out] at an
  have FR := hide1 (an.fresh T0.out B1.out.size)
  have RA := hide1 ((an.bl.block ab (lt_heap RA.out)).trans RA.out)
  have RN := hide1 ((an.bl.block nb (lt_heap RN.out)).trans RN.out)
  have B1 : Hid (Below w.heap.size w U2) := B1.out.trans (an.bl.mono B1.out.size)
  have Z0 := hide1 an.l0
  have Z1 := hide1 an.l1
  obtain ⟨m0, hm0⟩ : ∃ m, (N' 0).length = m := ⟨_, rfl⟩
  obtain ⟨m1, hm1⟩ : ∃ m, (N' 1).length = m := ⟨_, rfl⟩
  rw [hm0] at Z0 FR ⊢
  rw [hm1] at Z1 FR ⊢
  clear an hS hm0 hm1
  refine take_p 8 41 (.tuple #[.agg #[.slice az0 m0 cz0, .slice az1 m1 cz1], .int .i64 cc]) rfl rfl (by kernel_rfl) (by kernel_rfl) (by kernel_rfl) (fun _ _ _ h => h) rfl (fun w => by go_simp) ?_
  try simp only [List.setIfInBounds_toArray, List.set_cons_zero, List.set_cons_succ]
  refine take_p 9 50 (.agg #[.slice az0 m0 cz0, .slice az1 m1 cz1]) rfl rfl (by kernel_rfl) (by kernel_rfl) (by kernel_rfl) (fun _ _ _ h => h) rfl (fun w => by go_simp) ?_
  try simp only [List.setIfInBounds_toArray, List.set_cons_zero, List.set_cons_succ]
  refine take_p 10 51 (.int .i64 cc) rfl rfl (by kernel_rfl) (by kernel_rfl) (by kernel_rfl) (fun _ _ _ h => h) rfl (fun w => by go_simp) ?_
  try simp only [List.setIfInBounds_toArray, List.set_cons_zero, List.set_cons_succ]
  refine ready_f 11 (o := { dst := none, op := Op.store 27 (Operand.tmp 7) (Operand.tmp 50), type := 0, pos := "law.go:37", after := #[{ on := 9, ground := Ground.data }, { on := 7, ground := Ground.chain }, { on := 0, ground := Ground.phase }, { on := 1, ground := Ground.phase }, { on := 2, ground := Ground.phase }, { on := 3, ground := Ground.phase }, { on := 4, ground := Ground.phase }, { on := 5, ground := Ground.phase }, { on := 6, ground := Ground.phase }, { on := 7, ground := Ground.phase }, { on := 8, ground := Ground.phase }, { on := 9, ground := Ground.phase }, { on := 10, ground := Ground.textOnly Departure.lateStores }], guard := none }) (by kernel_rfl) rfl (fun K hK => ?_)
  rw [if_pos (by rfl)]
  refine wp_store_row 27 _ _ rfl nb _ rfl rfl 27 _ RN.out (by kernel_rfl) rfl (by kernel_rfl) ?_
  refine hK.out _ _ (fun h => absurd (by decide) h) ?_
  clear hK K
  refine take_p 12 8 (.int .i64 cc) rfl rfl (by kernel_rfl) (by kernel_rfl) (by kernel_rfl) (fun _ _ _ h => h) rfl (fun w => by go_simp) ?_
  try simp only [List.setIfInBounds_toArray, List.set_cons_zero, List.set_cons_succ]
  refine done_f (by kernel_rfl) ?_ _
  have RA := hide1 ((setRow_other U2 nb ab #[.slice az0 m0 cz0, .slice az1 m1 cz1] (by have := HS.out; omega)).trans RA.out)
  have B1 : Hid (Below w.heap.size w (U2.setRow nb #[.slice az0 m0 cz0, .slice az1 m1 cz1])) := below_setRow B1.out (by have := HS.out; omega) _
  have Z0 := hide1 (Z0.out.same (w' := U2.setRow nb #[.slice az0 m0 cz0, .slice az1 m1 cz1]) fun g hg => setRow_other _ _ _ _ (fun e => Z0.out.notBox RN.out (e ▸ hg)))
  have Z1 := hide1 (Z1.out.same (w' := U2.setRow nb #[.slice az0 m0 cz0, .slice az1 m1 cz1]) fun g hg => setRow_other _ _ _ _ (fun e => Z1.out.notBox RN.out (e ▸ hg)))
  have RN := hide1 (setRow_heap U2 nb _ #[.slice az0 m0 cz0, .slice az1 m1 cz1] _ _ RN.out)
  generalize U2.setRow nb _ = W3 at RA B1 Z0 Z1 RN ⊢
  obtain ⟨q0, q1, q2, q3, q4, q5⟩ := (box_act RA.out).1
  rw [Nat.zero_add] at q1 q2 q3 q4 q5
  go_wp2_with fail
  refine (kC.out W3 B1.out).mono ?_
  rintro e W4 ⟨rfl, x', hn, hv⟩
  have ST := T0.out.stepped B1.out Z0.out Z1.out FR.out hn hv
  obtain ⟨t4, z4, k4⟩ := ST
  have RN4 := hide1 ((k4 nb (by have := HS.out; omega) (lt_heap RN.out)).trans RN.out)
  have T4 := hide1 t4
  have Z4 := hide1 z4
  have RR4 := hide1 t4.row
  rw [HY0.out, HY1.out] at RR4
  have B4 : Hid (Below B w W4) := (B1.out.mono LB.out.1).trans (hv.below (T0.out.below B1.out).net)
  clear hn hv t4 z4 k4 q0 q1 q2 q3 q4 q5
  have hw5 : Below B w ((W4.setCell ⟨r, 0, none⟩ (.slice az0 m0 cz0)).setCell ⟨r, 1, none⟩ (.slice az1 m1 cz1)) := below_set2 B4.out T4.out.low
  have FIN := hide1 (T4.out.last Z4.out)
  have HW5 := hide1 hw5
  obtain ⟨e0, e1, _, _, _⟩ := box2 RN4.out
  obtain ⟨r0, r1, rz0, rz1, _⟩ := box2 RR4.out
  clear hw5
  go_wp2
  go_ret
  obtain ⟨z, hz⟩ := FIN.out
  exact ⟨rfl, _, z, hz, HW5.out⟩

set_option maxHeartbeats 4000000 in
theorem does_2 {B t r : Nat} {x y : Nat → Value} {N : Nat → List ByteArray} {w : World} (h : Tr B t r 27 x y N N w) (hs : Sm N) (q i k : Int) (s : ByteArray) (b : Nat) (_ : b < 256) :
    Calls Try.prog 7 #[.pointer (some ⟨t, 0, none⟩), .pointer (some ⟨r, 0, none⟩), .agg #[.int .i64 2, .int .i64 q, .int .i64 i, .int .i64 k, .string s, .int .u8 (b : Int)]] w fun e w' => e = .returned (.bool true) ∧ ∃ x' y', Tr B t r 27 x' y' (takN N q i) (takN N q i) w' ∧ Below B w w' := by
  have T0 := hide1 h
  have SS := hide1 hs
  obtain ⟨a0, c0, hy0⟩ := (h.own 0 (by omega)).form
  obtain ⟨a1, c1, hy1⟩ := (h.own 1 (by omega)).form
  obtain ⟨n0, hn0⟩ : ∃ n0, (N 0).length = n0 := ⟨_, rfl⟩
  obtain ⟨n1, hn1⟩ : ∃ n1, (N 1).length = n1 := ⟨_, rfl⟩
  rw [hn0] at hy0
  rw [hn1] at hy1
  have HY0 := hide1 hy0
  have HY1 := hide1 hy1
  have hrow := h.row
  rw [hy0, hy1] at hrow
  have HRW := hide1 hrow
  have hA : Below w.heap.size w (w.alloc (.cells #[.int .i64 2, .int .i64 q, .int .i64 i, .int .i64 k, .string s, .int .u8 (b : Int)] 29)) := below1 _
  obtain ⟨d0, d1, _, _, _⟩ := box2 ((hA.block r (lt_heap hrow)).trans hrow)
  have LB : Hid (B ≤ w.heap.size ∧ t < w.heap.size ∧ r < w.heap.size) := ⟨by have := h.net.low; have := lt_heap h.net.row; omega, lt_heap h.net.row, lt_heap hrow⟩
  have L0 : ∀ W, Below w.heap.size w W → Lst 0 W (.slice a0 n0 c0) (N 0) := fun W hb => hy0 ▸ ((h.below hb).own 0 (by omega)).mono (Nat.zero_le _)
  have L1 : ∀ W, Below w.heap.size w W → Lst 0 W (.slice a1 n1 c1) (N 1) := fun W hb => hy1 ▸ ((h.below hb).own 1 (by omega)).mono (Nat.zero_le _)
  have kR := hide1 (fun W (hb : Below w.heap.size w W) => rtake_any (L0 W hb) (L1 W hb) hs q i)
  have kC := hide1 (fun W (hb : Below w.heap.size w W) => drop_any (h.below hb).net q i hs.len)
  generalize plc N q i = cc at *
  generalize takN N q i = N' at *
  generalize takS N q i = ts at *
  clear h hs hy0 hy1 hn0 hn1 hrow hA L0 L1
  go_enter Try.func7, Try.ntmps7
  go_upto_region 17 with (fail)
  have h2 := two_new w (.cells #[.int .i64 2, .int .i64 q, .int .i64 i, .int .i64 k, .string s, .int .u8 (b : Int)] 29) (.cells #[.slice a0 n0 c0, .slice a1 n1 c1] 27)
  have hB2 := below2 (w := w) (.cells #[.int .i64 2, .int .i64 q, .int .i64 i, .int .i64 k, .string s, .int .u8 (b : Int)] 29) (.cells #[.slice a0 n0 c0, .slice a1 n1 c1] 27)
  clear d0 d1
  generalize (w.alloc _).alloc _ = W1 at h2 hB2 ⊢
  have B1 := hide1 hB2
  obtain ⟨ab, hab⟩ : ∃ ab, w.heap.size = ab := ⟨_, rfl⟩
  obtain ⟨nb, hnb⟩ : ∃ nb, w.heap.size + 1 = nb := ⟨_, rfl⟩
  have HS : Hid (w.heap.size = ab ∧ ab + 1 = nb) := ⟨hab, by omega⟩
  rw [hnb, hab] at h2
  rw [hnb, hab]
  have RA := hide1 h2.1
  have RN := hide1 h2.2
  clear hab hnb h2 hB2
  have RR := hide1 ((B1.out.block r (lt_heap HRW.out)).trans HRW.out)
  have CA1 : Hid (W1.cell? ⟨ab, 1, none⟩ = some (.int .i64 q)) := by
    show W1.cell? ⟨ab, 1, none⟩ = _
    rw [cell_of_row W1 ab 1 _ _ _ RA.out]
    rfl
  have CA2 : Hid (W1.cell? ⟨ab, 2, none⟩ = some (.int .i64 i)) := by
    show W1.cell? ⟨ab, 2, none⟩ = _
    rw [cell_of_row W1 ab 2 _ _ _ RA.out]
    rfl
  refine region_f (F := [7, 12]) (S := fun W => W.cell? ⟨r, 0, none⟩ = some (.slice a0 n0 c0) ∧ W.cell? ⟨r, 1, none⟩ = some (.slice a1 n1 c1) ∧ r < W.heap.size ∧ ab < W.heap.size ∧ W.cell? ⟨ab, 1, none⟩ = some (.int .i64 q) ∧ W.cell? ⟨ab, 2, none⟩ = some (.int .i64 i)) (by kernel_rfl) ⟨(box2 RR.out).1, (box2 RR.out).2.1, (box2 RR.out).2.2.2.2, lt_heap RA.out, CA1.out, CA2.out⟩ (fun hS => ?_)
  generalize hU : World.drew W1 = U at hS ⊢
  have RA : Hid (U.heap[ab]? = some (.cells #[.int .i64 2, .int .i64 q, .int .i64 i, .int .i64 k, .string s, .int .u8 (b : Int)] 29 (0, 0))) := by rw [← hU]; exact RA.out
  have RN : Hid (U.heap[nb]? = some (.cells #[.slice a0 n0 c0, .slice a1 n1 c1] 27 (0, 0))) := by rw [← hU]; exact RN.out
  have B1 : Hid (Below w.heap.size w U) := by rw [← hU]; exact B1.out.drew
  clear hU RR
  refine take_p 0 90 (.pointer (some ⟨r, 0, none⟩)) rfl rfl (by kernel_rfl) (by kernel_rfl) (by kernel_rfl) (fun _ _ _ h => h) rfl (fun w => by go_simp) ?_
  try simp only [List.setIfInBounds_toArray, List.set_cons_zero, List.set_cons_succ]
  refine take_p 1 91 (.pointer (some ⟨r, 0, none⟩)) rfl rfl (by kernel_rfl) (by kernel_rfl) (by kernel_rfl) (fun _ _ _ h => h) rfl (fun w => by go_simp) ?_
  try simp only [List.setIfInBounds_toArray, List.set_cons_zero, List.set_cons_succ]
  refine take_f 2 92 (.agg #[.slice a0 n0 c0, .slice a1 n1 c1]) [7, 8, 9, 10, 11, 12, 13] rfl rfl (by kernel_rfl) (by kernel_rfl) (by kernel_rfl) (by kernel_rfl) (by kernel_rfl) (by kernel_rfl) (fun _ _ _ h => h) rfl (fun w hSw => by obtain ⟨g0, g1, g2, g3, g4, g5⟩ := hSw; go_simp) hS ?_
  try simp only [List.setIfInBounds_toArray, List.set_cons_zero, List.set_cons_succ]
  refine take_p 3 93 (.pointer (some ⟨ab, 1, none⟩)) rfl rfl (by kernel_rfl) (by kernel_rfl) (by kernel_rfl) (fun _ _ _ h => h) rfl (fun w => by go_simp) ?_
  try simp only [List.setIfInBounds_toArray, List.set_cons_zero, List.set_cons_succ]
  refine take_f 4 94 (.int .i64 q) [7, 8, 9, 10, 11, 12, 13] rfl rfl (by kernel_rfl) (by kernel_rfl) (by kernel_rfl) (by kernel_rfl) (by kernel_rfl) (by kernel_rfl) (fun _ _ _ h => h) rfl (fun w hSw => by obtain ⟨g0, g1, g2, g3, g4, g5⟩ := hSw; go_simp) hS ?_
  try simp only [List.setIfInBounds_toArray, List.set_cons_zero, List.set_cons_succ]
  refine take_p 5 95 (.pointer (some ⟨ab, 2, none⟩)) rfl rfl (by kernel_rfl) (by kernel_rfl) (by kernel_rfl) (fun _ _ _ h => h) rfl (fun w => by go_simp) ?_
  try simp only [List.setIfInBounds_toArray, List.set_cons_zero, List.set_cons_succ]
  refine take_f 6 96 (.int .i64 i) [7, 8, 9, 10, 11, 12, 13] rfl rfl (by kernel_rfl) (by kernel_rfl) (by kernel_rfl) (by kernel_rfl) (by kernel_rfl) (by kernel_rfl) (fun _ _ _ h => h) rfl (fun w hSw => by obtain ⟨g0, g1, g2, g3, g4, g5⟩ := hSw; go_simp) hS ?_
  try simp only [List.setIfInBounds_toArray, List.set_cons_zero, List.set_cons_succ]
  refine ready_f 7 (o := { dst := some 97, op := Op.call { callee := Callee.value (Operand.func 22), args := #[Operand.tmp 92, Operand.tmp 94, Operand.tmp 96], argTypes := #[31, 3, 3] }, type := 54, pos := "law.go:44", after := #[{ on := 2, ground := Ground.data }, { on := 4, ground := Ground.data }, { on := 6, ground := Ground.data }], guard := none }) (by kernel_rfl) rfl (fun K hK => ?_)
  go_simp
  refine (kR.out U B1.out).mono ?_
  rintro e U2 ⟨z0, z1, rfl, an⟩
  refine hK.out _ _ (fun h => absurd (by decide) h) ?_
  clear hK K
  try simp only [Act.put, List.setIfInBounds_toArray, List.set_cons_zero, List.set_cons_succ]
  obtain ⟨az0, cz0, rfl⟩ := an.l0.form
  obtain ⟨az1, cz1, rfl⟩ := an.l1.form
  rw [← HY0.out, ← HY1.out] at an
  have FR := hide1 (an.fresh T0.out B1.out.size)
  have RA := hide1 ((an.bl.block ab (lt_heap RA.out)).trans RA.out)
  have RN := hide1 ((an.bl.block nb (lt_heap RN.out)).trans RN.out)
  have B1 : Hid (Below w.heap.size w U2) := B1.out.trans (an.bl.mono B1.out.size)
  have Z0 := hide1 an.l0
  have Z1 := hide1 an.l1
  obtain ⟨m0, hm0⟩ : ∃ m, (N' 0).length = m := ⟨_, rfl⟩
  obtain ⟨m1, hm1⟩ : ∃ m, (N' 1).length = m := ⟨_, rfl⟩
  rw [hm0] at Z0 FR ⊢
  rw [hm1] at Z1 FR ⊢
  clear an hS hm0 hm1
  refine take_p 8 89 (.tuple #[.agg #[.slice az0 m0 cz0, .slice az1 m1 cz1], .string ts, .int .i64 cc]) rfl rfl (by kernel_rfl) (by kernel_rfl) (by kernel_rfl) (fun _ _ _ h => h) rfl (fun w => by go_simp) ?_
  try simp only [List.setIfInBounds_toArray, List.set_cons_zero, List.set_cons_succ]
  refine take_p 9 98 (.agg #[.slice az0 m0 cz0, .slice az1 m1 cz1]) rfl rfl (by kernel_rfl) (by kernel_rfl) (by kernel_rfl) (fun _ _ _ h => h) rfl (fun w => by go_simp) ?_
  try simp only [List.setIfInBounds_toArray, List.set_cons_zero, List.set_cons_succ]
  refine take_p 10 99 (.string ts) rfl rfl (by kernel_rfl) (by kernel_rfl) (by kernel_rfl) (fun _ _ _ h => h) rfl (fun w => by go_simp) ?_
  try simp only [List.setIfInBounds_toArray, List.set_cons_zero, List.set_cons_succ]
  refine take_p 11 100 (.int .i64 cc) rfl rfl (by kernel_rfl) (by kernel_rfl) (by kernel_rfl) (fun _ _ _ h => h) rfl (fun w => by go_simp) ?_
  try simp only [List.setIfInBounds_toArray, List.set_cons_zero, List.set_cons_succ]
  refine ready_f 12 (o := { dst := none, op := Op.store 27 (Operand.tmp 7) (Operand.tmp 98), type := 0, pos := "law.go:44", after := #[{ on := 9, ground := Ground.data }, { on := 7, ground := Ground.chain }, { on := 0, ground := Ground.phase }, { on := 1, ground := Ground.phase }, { on := 2, ground := Ground.phase }, { on := 3, ground := Ground.phase }, { on := 4, ground := Ground.phase }, { on := 5, ground := Ground.phase }, { on := 6, ground := Ground.phase }, { on := 7, ground := Ground.phase }, { on := 8, ground := Ground.phase }, { on := 9, ground := Ground.phase }, { on := 10, ground := Ground.textOnly Departure.lateStores }, { on := 11, ground := Ground.textOnly Departure.lateStores }], guard := none }) (by kernel_rfl) rfl (fun K hK => ?_)
  rw [if_pos (by rfl)]
  refine wp_store_row 27 _ _ rfl nb _ rfl rfl 27 _ RN.out (by kernel_rfl) rfl (by kernel_rfl) ?_
  refine hK.out _ _ (fun h => absurd (by decide) h) ?_
  clear hK K
  refine take_p 13 8 (.int .i64 cc) rfl rfl (by kernel_rfl) (by kernel_rfl) (by kernel_rfl) (fun _ _ _ h => h) rfl (fun w => by go_simp) ?_
  try simp only [List.setIfInBounds_toArray, List.set_cons_zero, List.set_cons_succ]
  refine done_f (by kernel_rfl) ?_ _
  have RA := hide1 ((setRow_other U2 nb ab #[.slice az0 m0 cz0, .slice az1 m1 cz1] (by have := HS.out; omega)).trans RA.out)
  have B1 : Hid (Below w.heap.size w (U2.setRow nb #[.slice az0 m0 cz0, .slice az1 m1 cz1])) := below_setRow B1.out (by have := HS.out; omega) _
  have Z0 := hide1 (Z0.out.same (w' := U2.setRow nb #[.slice az0 m0 cz0, .slice az1 m1 cz1]) fun g hg => setRow_other _ _ _ _ (fun e => Z0.out.notBox RN.out (e ▸ hg)))
  have Z1 := hide1 (Z1.out.same (w' := U2.setRow nb #[.slice az0 m0 cz0, .slice az1 m1 cz1]) fun g hg => setRow_other _ _ _ _ (fun e => Z1.out.notBox RN.out (e ▸ hg)))
  have RN := hide1 (setRow_heap U2 nb _ #[.slice az0 m0 cz0, .slice az1 m1 cz1] _ _ RN.out)
  generalize U2.setRow nb _ = W3 at RA B1 Z0 Z1 RN ⊢
  obtain ⟨q0, q1, q2, q3, q4, q5⟩ := (box_act RA.out).1
  rw [Nat.zero_add] at q1 q2 q3 q4 q5
  go_wp2_with fail
  refine (kC.out W3 B1.out).mono ?_
  rintro e W4 ⟨rfl, x', hn, hv⟩
  have ST := T0.out.stepped B1.out Z0.out Z1.out FR.out hn hv
  obtain ⟨t4, z4, k4⟩ := ST
  have RN4 := hide1 ((k4 nb (by have := HS.out; omega) (lt_heap RN.out)).trans RN.out)
  have T4 := hide1 t4
  have Z4 := hide1 z4
  have RR4 := hide1 t4.row
  rw [HY0.out, HY1.out] at RR4
  have B4 : Hid (Below B w W4) := (B1.out.mono LB.out.1).trans (hv.below (T0.out.below B1.out).net)
  clear hn hv t4 z4 k4 q0 q1 q2 q3 q4 q5
  have hw5 : Below B w ((W4.setCell ⟨r, 0, none⟩ (.slice az0 m0 cz0)).setCell ⟨r, 1, none⟩ (.slice az1 m1 cz1)) := below_set2 B4.out T4.out.low
  have FIN := hide1 (T4.out.last Z4.out)
  have HW5 := hide1 hw5
  obtain ⟨e0, e1, _, _, _⟩ := box2 RN4.out
  obtain ⟨r0, r1, rz0, rz1, _⟩ := box2 RR4.out
  clear hw5
  go_wp2
  go_ret
  obtain ⟨z, hz⟩ := FIN.out
  exact ⟨rfl, _, z, hz, HW5.out⟩

set_option maxHeartbeats 4000000 in
theorem does_3 {B t r : Nat} {x y : Nat → Value} {N : Nat → List ByteArray} {w : World} (h : Tr B t r 27 x y N N w) (hs : Sm N) (q i k : Int) (s : ByteArray) (b : Nat) (_ : b < 256) :
    Calls Try.prog 7 #[.pointer (some ⟨t, 0, none⟩), .pointer (some ⟨r, 0, none⟩), .agg #[.int .i64 3, .int .i64 q, .int .i64 i, .int .i64 k, .string s, .int .u8 (b : Int)]] w fun e w' => e = .returned (.bool true) ∧ ∃ x' y', Tr B t r 27 x' y' (dblN N q i) (dblN N q i) w' ∧ Below B w w' := by
  have T0 := hide1 h
  have SS := hide1 hs
  obtain ⟨a0, c0, hy0⟩ := (h.own 0 (by omega)).form
  obtain ⟨a1, c1, hy1⟩ := (h.own 1 (by omega)).form
  obtain ⟨n0, hn0⟩ : ∃ n0, (N 0).length = n0 := ⟨_, rfl⟩
  obtain ⟨n1, hn1⟩ : ∃ n1, (N 1).length = n1 := ⟨_, rfl⟩
  rw [hn0] at hy0
  rw [hn1] at hy1
  have HY0 := hide1 hy0
  have HY1 := hide1 hy1
  have hrow := h.row
  rw [hy0, hy1] at hrow
  have HRW := hide1 hrow
  have hA : Below w.heap.size w (w.alloc (.cells #[.int .i64 3, .int .i64 q, .int .i64 i, .int .i64 k, .string s, .int .u8 (b : Int)] 29)) := below1 _
  obtain ⟨d0, d1, _, _, _⟩ := box2 ((hA.block r (lt_heap hrow)).trans hrow)
  have LB : Hid (B ≤ w.heap.size ∧ t < w.heap.size ∧ r < w.heap.size) := ⟨by have := h.net.low; have := lt_heap h.net.row; omega, lt_heap h.net.row, lt_heap hrow⟩
  have L0 : ∀ W, Below w.heap.size w W → Lst 0 W (.slice a0 n0 c0) (N 0) := fun W hb => hy0 ▸ ((h.below hb).own 0 (by omega)).mono (Nat.zero_le _)
  have L1 : ∀ W, Below w.heap.size w W → Lst 0 W (.slice a1 n1 c1) (N 1) := fun W hb => hy1 ▸ ((h.below hb).own 1 (by omega)).mono (Nat.zero_le _)
  have kR := hide1 (fun W (hb : Below w.heap.size w W) => rdouble_any (L0 W hb) (L1 W hb) hs q i)
  have kC := hide1 (fun W (hb : Below w.heap.size w W) => double_any (h.below hb).net q i hs.len)
  generalize dblC N q i = cc at *
  generalize dblN N q i = N' at *
  clear h hs hy0 hy1 hn0 hn1 hrow hA L0 L1
  go_enter Try.func7, Try.ntmps7
  go_upto_region 20 with (fail)
  have h2 := two_new w (.cells #[.int .i64 3, .int .i64 q, .int .i64 i, .int .i64 k, .string s, .int .u8 (b : Int)] 29) (.cells #[.slice a0 n0 c0, .slice a1 n1 c1] 27)
  have hB2 := below2 (w := w) (.cells #[.int .i64 3, .int .i64 q, .int .i64 i, .int .i64 k, .string s, .int .u8 (b : Int)] 29) (.cells #[.slice a0 n0 c0, .slice a1 n1 c1] 27)
  clear d0 d1
  generalize (w.alloc _).alloc _ = W1 at h2 hB2 ⊢
  have B1 := hide1 hB2
  obtain ⟨ab, hab⟩ : ∃ ab, w.heap.size = ab := ⟨_, rfl⟩
  obtain ⟨nb, hnb⟩ : ∃ nb, w.heap.size + 1 = nb := ⟨_, rfl⟩
  have HS : Hid (w.heap.size = ab ∧ ab + 1 = nb) := ⟨hab, by omega⟩
  rw [hnb, hab] at h2
  rw [hnb, hab]
  have RA := hide1 h2.1
  have RN := hide1 h2.2
  clear hab hnb h2 hB2
  have RR := hide1 ((B1.out.block r (lt_heap HRW.out)).trans HRW.out)
  have CA1 : Hid (W1.cell? ⟨ab, 1, none⟩ = some (.int .i64 q)) := by
    show W1.cell? ⟨ab, 1, none⟩ = _
    rw [cell_of_row W1 ab 1 _ _ _ RA.out]
    rfl
  have CA2 : Hid (W1.cell? ⟨ab, 2, none⟩ = some (.int .i64 i)) := by
    show W1.cell? ⟨ab, 2, none⟩ = _
    rw [cell_of_row W1 ab 2 _ _ _ RA.out]
    rfl
  refine region_f (F := [7, 11]) (S := fun W => W.cell? ⟨r, 0, none⟩ = some (.slice a0 n0 c0) ∧ W.cell? ⟨r, 1, none⟩ = some (.slice a1 n1 c1) ∧ r < W.heap.size ∧ ab < W.heap.size ∧ W.cell? ⟨ab, 1, none⟩ = some (.int .i64 q) ∧ W.cell? ⟨ab, 2, none⟩ = some (.int .i64 i)) (by kernel_rfl) ⟨(box2 RR.out).1, (box2 RR.out).2.1, (box2 RR.out).2.2.2.2, lt_heap RA.out, CA1.out, CA2.out⟩ (fun hS => ?_)
  generalize hU : World.drew W1 = U at hS ⊢
  have RA : Hid (U.heap[ab]? = some (.cells #[.int .i64 3, .int .i64 q, .int .i64 i, .int .i64 k, .string s, .int .u8 (b : Int)] 29 (0, 0))) := by rw [← hU]; exact RA.out
  have RN : Hid (U.heap[nb]? = some (.cells #[.slice a0 n0 c0, .slice a1 n1 c1] 27 (0, 0))) := by rw [← hU]; exact RN.out
  have B1 : Hid (Below w.heap.size w U) := by rw [← hU]; exact B1.out.drew
  clear hU RR
  refine take_p 0 110 (.pointer (some ⟨r, 0, none⟩)) rfl rfl (by kernel_rfl) (by kernel_rfl) (by kernel_rfl) (fun _ _ _ h => h) rfl (fun w => by go_simp) ?_
  try simp only [List.setIfInBounds_toArray, List.set_cons_zero, List.set_cons_succ]
  refine take_p 1 111 (.pointer (some ⟨r, 0, none⟩)) rfl rfl (by kernel_rfl) (by kernel_rfl) (by kernel_rfl) (fun _ _ _ h => h) rfl (fun w => by go_simp) ?_
  try simp only [List.setIfInBounds_toArray, List.set_cons_zero, List.set_cons_succ]
  refine take_f 2 112 (.agg #[.slice a0 n0 c0, .slice a1 n1 c1]) [7, 8, 9, 10, 11, 12] rfl rfl (by kernel_rfl) (by kernel_rfl) (by kernel_rfl) (by kernel_rfl) (by kernel_rfl) (by kernel_rfl) (fun _ _ _ h => h) rfl (fun w hSw => by obtain ⟨g0, g1, g2, g3, g4, g5⟩ := hSw; go_simp) hS ?_
  try simp only [List.setIfInBounds_toArray, List.set_cons_zero, List.set_cons_succ]
  refine take_p 3 113 (.pointer (some ⟨ab, 1, none⟩)) rfl rfl (by kernel_rfl) (by kernel_rfl) (by kernel_rfl) (fun _ _ _ h => h) rfl (fun w => by go_simp) ?_
  try simp only [List.setIfInBounds_toArray, List.set_cons_zero, List.set_cons_succ]
  refine take_f 4 114 (.int .i64 q) [7, 8, 9, 10, 11, 12] rfl rfl (by kernel_rfl) (by kernel_rfl) (by kernel_rfl) (by kernel_rfl) (by kernel_rfl) (by kernel_rfl) (fun _ _ _ h => h) rfl (fun w hSw => by obtain ⟨g0, g1, g2, g3, g4, g5⟩ := hSw; go_simp) hS ?_
  try simp only [List.setIfInBounds_toArray, List.set_cons_zero, List.set_cons_succ]
  refine take_p 5 115 (.pointer (some ⟨ab, 2, none⟩)) rfl rfl (by kernel_rfl) (by kernel_rfl) (by kernel_rfl) (fun _ _ _ h => h) rfl (fun w => by go_simp) ?_
  try simp only [List.setIfInBounds_toArray, List.set_cons_zero, List.set_cons_succ]
  refine take_f 6 116 (.int .i64 i) [7, 8, 9, 10, 11, 12] rfl rfl (by kernel_rfl) (by kernel_rfl) (by kernel_rfl) (by kernel_rfl) (by kernel_rfl) (by kernel_rfl) (fun _ _ _ h => h) rfl (fun w hSw => by obtain ⟨g0, g1, g2, g3, g4, g5⟩ := hSw; go_simp) hS ?_
  try simp only [List.setIfInBounds_toArray, List.set_cons_zero, List.set_cons_succ]
  refine ready_f 7 (o := { dst := some 117, op := Op.call { callee := Callee.value (Operand.func 23), args := #[Operand.tmp 112, Operand.tmp 114, Operand.tmp 116], argTypes := #[31, 3, 3] }, type := 52, pos := "law.go:47", after := #[{ on := 2, ground := Ground.data }, { on := 4, ground := Ground.data }, { on := 6, ground := Ground.data }], guard := none }) (by kernel_rfl) rfl (fun K hK => ?_)
  go_simp
  refine (kR.out U B1.out).mono ?_
  rintro e U2 ⟨z0, z1, rfl, an⟩
  refine hK.out _ _ (fun h => absurd (by decide) h) ?_
  clear hK K
  try simp only [Act.put, List.setIfInBounds_toArray, List.set_cons_zero, List.set_cons_succ]
  obtain ⟨az0, cz0, rfl⟩ := an.l0.form
  obtain ⟨az1, cz1, rfl⟩ := an.l1.form
  rw [← HY0.out, ← HY1.out] at an
  have FR := hide1 (an.fresh T0.out B1.out.size)
  have RA := hide1 ((an.bl.block ab (lt_heap RA.out)).trans RA.out)
  have RN := hide1 ((an.bl.block nb (lt_heap RN.out)).trans RN.out)
  have B1 : Hid (Below w.heap.size w U2) := B1.out.trans (an.bl.mono B1.out.size)
  have Z0 := hide1 an.l0
  have Z1 := hide1 an.l1
  obtain ⟨m0, hm0⟩ : ∃ m, (N' 0).length = m := ⟨_, rfl⟩
  obtain ⟨m1, hm1⟩ : ∃ m, (N' 1).length = m := ⟨_, rfl⟩
  rw [hm0] at Z0 FR ⊢
  rw [hm1] at Z1 FR ⊢
  clear an hS hm0 hm1
  refine take_p 8 109 (.tuple #[.agg #[.slice az0 m0 cz0, .slice az1 m1 cz1], .int .i64 cc]) rfl rfl (by kernel_rfl) (by kernel_rfl) (by kernel_rfl) (fun _ _ _ h => h) rfl (fun w => by go_simp) ?_
  try simp only [List.setIfInBounds_toArray, List.set_cons_zero, List.set_cons_succ]
  refine take_p 9 118 (.agg #[.slice az0 m0 cz0, .slice az1 m1 cz1]) rfl rfl (by kernel_rfl) (by kernel_rfl) (by kernel_rfl) (fun _ _ _ h => h) rfl (fun w => by go_simp) ?_
  try simp only [List.setIfInBounds_toArray, List.set_cons_zero, List.set_cons_succ]
  refine take_p 10 119 (.int .i64 cc) rfl rfl (by kernel_rfl) (by kernel_rfl) (by kernel_rfl) (fun _ _ _ h => h) rfl (fun w => by go_simp) ?_
  try simp only [List.setIfInBounds_toArray, List.set_cons_zero, List.set_cons_succ]
  refine ready_f 11 (o := { dst := none, op := Op.store 27 (Operand.tmp 7) (Operand.tmp 118), type := 0, pos := "law.go:47", after := #[{ on := 9, ground := Ground.data }, { on := 7, ground := Ground.chain }, { on := 0, ground := Ground.phase }, { on := 1, ground := Ground.phase }, { on := 2, ground := Ground.phase }, { on := 3, ground := Ground.phase }, { on := 4, ground := Ground.phase }, { on := 5, ground := Ground.phase }, { on := 6, ground := Ground.phase }, { on := 7, ground := Ground.phase }, { on := 8, ground := Ground.phase }, { on := 9, ground := Ground.phase }, { on := 10, ground := Ground.textOnly Departure.lateStores }], guard := none }) (by kernel_rfl) rfl (fun K hK => ?_)
  rw [if_pos (by rfl)]
  refine wp_store_row 27 _ _ rfl nb _ rfl rfl 27 _ RN.out (by kernel_rfl) rfl (by kernel_rfl) ?_
  refine hK.out _ _ (fun h => absurd (by decide) h) ?_
  clear hK K
  refine take_p 12 8 (.int .i64 cc) rfl rfl (by kernel_rfl) (by kernel_rfl) (by kernel_rfl) (fun _ _ _ h => h) rfl (fun w => by go_simp) ?_
  try simp only [List.setIfInBounds_toArray, List.set_cons_zero, List.set_cons_succ]
  refine done_f (by kernel_rfl) ?_ _
  have RA := hide1 ((setRow_other U2 nb ab #[.slice az0 m0 cz0, .slice az1 m1 cz1] (by have := HS.out; omega)).trans RA.out)
  have B1 : Hid (Below w.heap.size w (U2.setRow nb #[.slice az0 m0 cz0, .slice az1 m1 cz1])) := below_setRow B1.out (by have := HS.out; omega) _
  have Z0 := hide1 (Z0.out.same (w' := U2.setRow nb #[.slice az0 m0 cz0, .slice az1 m1 cz1]) fun g hg => setRow_other _ _ _ _ (fun e => Z0.out.notBox RN.out (e ▸ hg)))
  have Z1 := hide1 (Z1.out.same (w' := U2.setRow nb #[.slice az0 m0 cz0, .slice az1 m1 cz1]) fun g hg => setRow_other _ _ _ _ (fun e => Z1.out.notBox RN.out (e ▸ hg)))
  have RN := hide1 (setRow_heap U2 nb _ #[.slice az0 m0 cz0, .slice az1 m1 cz1] _ _ RN.out)
  generalize U2.setRow nb _ = W3 at RA B1 Z0 Z1 RN ⊢
  obtain ⟨q0, q1, q2, q3, q4, q5⟩ := (box_act RA.out).1
  rw [Nat.zero_add] at q1 q2 q3 q4 q5
  go_wp2_with fail
  refine (kC.out W3 B1.out).mono ?_
  rintro e W4 ⟨rfl, x', hn, hv⟩
  have ST := T0.out.stepped B1.out Z0.out Z1.out FR.out hn hv
  obtain ⟨t4, z4, k4⟩ := ST
  have RN4 := hide1 ((k4 nb (by have := HS.out; omega) (lt_heap RN.out)).trans RN.out)
  have T4 := hide1 t4
  have Z4 := hide1 z4
  have RR4 := hide1 t4.row
  rw [HY0.out, HY1.out] at RR4
  have B4 : Hid (Below B w W4) := (B1.out.mono LB.out.1).trans (hv.below (T0.out.below B1.out).net)
  clear hn hv t4 z4 k4 q0 q1 q2 q3 q4 q5
  have hw5 : Below B w ((W4.setCell ⟨r, 0, none⟩ (.slice az0 m0 cz0)).setCell ⟨r, 1, none⟩ (.slice az1 m1 cz1)) := below_set2 B4.out T4.out.low
  have FIN := hide1 (T4.out.last Z4.out)
  have HW5 := hide1 hw5
  obtain ⟨e0, e1, _, _, _⟩ := box2 RN4.out
  obtain ⟨r0, r1, rz0, rz1, _⟩ := box2 RR4.out
  clear hw5
  go_wp2
  go_ret
  obtain ⟨z, hz⟩ := FIN.out
  exact ⟨rfl, _, z, hz, HW5.out⟩

set_option maxHeartbeats 4000000 in
theorem does_4 {B t r : Nat} {x y : Nat → Value} {N : Nat → List ByteArray} {w : World} (h : Tr B t r 27 x y N N w) (hs : Sm N) (q i k : Int) (s : ByteArray) (b : Nat) (_ : b < 256) :
    Calls Try.prog 7 #[.pointer (some ⟨t, 0, none⟩), .pointer (some ⟨r, 0, none⟩), .agg #[.int .i64 4, .int .i64 q, .int .i64 i, .int .i64 k, .string s, .int .u8 (b : Int)]] w fun e w' => e = .returned (.bool true) ∧ ∃ x' y', Tr B t r 27 x' y' (swpN N q i k) (swpN N q i k) w' ∧ Below B w w' := by
  have T0 := hide1 h
  have SS := hide1 hs
  obtain ⟨a0, c0, hy0⟩ := (h.own 0 (by omega)).form
  obtain ⟨a1, c1, hy1⟩ := (h.own 1 (by omega)).form
  obtain ⟨n0, hn0⟩ : ∃ n0, (N 0).length = n0 := ⟨_, rfl⟩
  obtain ⟨n1, hn1⟩ : ∃ n1, (N 1).length = n1 := ⟨_, rfl⟩
  rw [hn0] at hy0
  rw [hn1] at hy1
  have HY0 := hide1 hy0
  have HY1 := hide1 hy1
  have hrow := h.row
  rw [hy0, hy1] at hrow
  have HRW := hide1 hrow
  have hA : Below w.heap.size w (w.alloc (.cells #[.int .i64 4, .int .i64 q, .int .i64 i, .int .i64 k, .string s, .int .u8 (b : Int)] 29)) := below1 _
  obtain ⟨d0, d1, _, _, _⟩ := box2 ((hA.block r (lt_heap hrow)).trans hrow)
  have LB : Hid (B ≤ w.heap.size ∧ t < w.heap.size ∧ r < w.heap.size) := ⟨by have := h.net.low; have := lt_heap h.net.row; omega, lt_heap h.net.row, lt_heap hrow⟩
  have L0 : ∀ W, Below w.heap.size w W → Lst 0 W (.slice a0 n0 c0) (N 0) := fun W hb => hy0 ▸ ((h.below hb).own 0 (by omega)).mono (Nat.zero_le _)
  have L1 : ∀ W, Below w.heap.size w W → Lst 0 W (.slice a1 n1 c1) (N 1) := fun W hb => hy1 ▸ ((h.below hb).own 1 (by omega)).mono (Nat.zero_le _)
  have kR := hide1 (fun W (hb : Below w.heap.size w W) => rswap_any (L0 W hb) (L1 W hb) hs q i k)
  have kC := hide1 (fun W (hb : Below w.heap.size w W) => swap_any (h.below hb).net q i k)
  generalize swpC N q i k = cc at *
  generalize swpN N q i k = N' at *
  clear h hs hy0 hy1 hn0 hn1 hrow hA L0 L1
  go_enter Try.func7, Try.ntmps7
  go_upto_region 23 with (fail)
  have h2 := two_new w (.cells #[.int .i64 4, .int .i64 q, .int .i64 i, .int .i64 k, .string s, .int .u8 (b : Int)] 29) (.cells #[.slice a0 n0 c0, .slice a1 n1 c1] 27)
  have hB2 := below2 (w := w) (.cells #[.int .i64 4, .int .i64 q, .int .i64 i, .int .i64 k, .string s, .int .u8 (b : Int)] 29) (.cells #[.slice a0 n0 c0, .slice a1 n1 c1] 27)
  clear d0 d1
  generalize (w.alloc _).alloc _ = W1 at h2 hB2 ⊢
  have B1 := hide1 hB2
  obtain ⟨ab, hab⟩ : ∃ ab, w.heap.size = ab := ⟨_, rfl⟩
  obtain ⟨nb, hnb⟩ : ∃ nb, w.heap.size + 1 = nb := ⟨_, rfl⟩
  have HS : Hid (w.heap.size = ab ∧ ab + 1 = nb) := ⟨hab, by omega⟩
  rw [hnb, hab] at h2
  rw [hnb, hab]
  have RA := hide1 h2.1
  have RN := hide1 h2.2
  clear hab hnb h2 hB2
  have RR := hide1 ((B1.out.block r (lt_heap HRW.out)).trans HRW.out)
  have CA1 : Hid (W1.cell? ⟨ab, 1, none⟩ = some (.int .i64 q)) := by
    show W1.cell? ⟨ab, 1, none⟩ = _
    rw [cell_of_row W1 ab 1 _ _ _ RA.out]
    rfl
  have CA2 : Hid (W1.cell? ⟨ab, 2, none⟩ = some (.int .i64 i)) := by
    show W1.cell? ⟨ab, 2, none⟩ = _
    rw [cell_of_row W1 ab 2 _ _ _ RA.out]
    rfl
  have CA3 : Hid (W1.cell? ⟨ab, 3, none⟩ = some (.int .i64 k)) := by
    show W1.cell? ⟨ab, 3, none⟩ = _
    rw [cell_of_row W1 ab 3 _ _ _ RA.out]
    rfl
  refine region_f (F := [9, 13]) (S := fun W => W.cell? ⟨r, 0, none⟩ = some (.slice a0 n0 c0) ∧ W.cell? ⟨r, 1, none⟩ = some (.slice a1 n1 c1) ∧ r < W.heap.size ∧ ab < W.heap.size ∧ W.cell? ⟨ab, 1, none⟩ = some (.int .i64 q) ∧ W.cell? ⟨ab, 2, none⟩ = some (.int .i64 i) ∧ W.cell? ⟨ab, 3, none⟩ = some (.int .i64 k)) (by kernel_rfl) ⟨(box2 RR.out).1, (box2 RR.out).2.1, (box2 RR.out).2.2.2.2, lt_heap RA.out, CA1.out, CA2.out, CA3.out⟩ (fun hS => ?_)
  generalize hU : World.drew W1 = U at hS ⊢
  have RA : Hid (U.heap[ab]? = some (.cells #[.int .i64 4, .int .i64 q, .int .i64 i, .int .i64 k, .string s, .int .u8 (b : Int)] 29 (0, 0))) := by rw [← hU]; exact RA.out
  have RN : Hid (U.heap[nb]? = some (.cells #[.slice a0 n0 c0, .slice a1 n1 c1] 27 (0, 0))) := by rw [← hU]; exact RN.out
  have B1 : Hid (Below w.heap.size w U) := by rw [← hU]; exact B1.out.drew
  clear hU RR
  refine take_p 0 129 (.pointer (some ⟨r, 0, none⟩)) rfl rfl (by kernel_rfl) (by kernel_rfl) (by kernel_rfl) (fun _ _ _ h => h) rfl (fun w => by go_simp) ?_
  try simp only [List.setIfInBounds_toArray, List.set_cons_zero, List.set_cons_succ]
  refine take_p 1 130 (.pointer (some ⟨r, 0, none⟩)) rfl rfl (by kernel_rfl) (by kernel_rfl) (by kernel_rfl) (fun _ _ _ h => h) rfl (fun w => by go_simp) ?_
  try simp only [List.setIfInBounds_toArray, List.set_cons_zero, List.set_cons_succ]
  refine take_f 2 131 (.agg #[.slice a0 n0 c0, .slice a1 n1 c1]) [9, 10, 11, 12, 13, 14] rfl rfl (by kernel_rfl) (by kernel_rfl) (by kernel_rfl) (by kernel_rfl) (by kernel_rfl) (by kernel_rfl) (fun _ _ _ h => h) rfl (fun w hSw => by obtain ⟨g0, g1, g2, g3, g4, g5, g6⟩ := hSw; go_simp) hS ?_
  try simp only [List.setIfInBounds_toArray, List.set_cons_zero, List.set_cons_succ]
  refine take_p 3 132 (.pointer (some ⟨ab, 1, none⟩)) rfl rfl (by kernel_rfl) (by kernel_rfl) (by kernel_rfl) (fun _ _ _ h => h) rfl (fun w => by go_simp) ?_
  try simp only [List.setIfInBounds_toArray, List.set_cons_zero, List.set_cons_succ]
  refine take_f 4 133 (.int .i64 q) [9, 10, 11, 12, 13, 14] rfl rfl (by kernel_rfl) (by kernel_rfl) (by kernel_rfl) (by kernel_rfl) (by kernel_rfl) (by kernel_rfl) (fun _ _ _ h => h) rfl (fun w hSw => by obtain ⟨g0, g1, g2, g3, g4, g5, g6⟩ := hSw; go_simp) hS ?_
  try simp only [List.setIfInBounds_toArray, List.set_cons_zero, List.set_cons_succ]
  refine take_p 5 134 (.pointer (some ⟨ab, 2, none⟩)) rfl rfl (by kernel_rfl) (by kernel_rfl) (by kernel_rfl) (fun _ _ _ h => h) rfl (fun w => by go_simp) ?_
  try simp only [List.setIfInBounds_toArray, List.set_cons_zero, List.set_cons_succ]
  refine take_f 6 135 (.int .i64 i) [9, 10, 11, 12, 13, 14] rfl rfl (by kernel_rfl) (by kernel_rfl) (by kernel_rfl) (by kernel_rfl) (by kernel_rfl) (by kernel_rfl) (fun _ _ _ h => h) rfl (fun w hSw => by obtain ⟨g0, g1, g2, g3, g4, g5, g6⟩ := hSw; go_simp) hS ?_
  try simp only [List.setIfInBounds_toArray, List.set_cons_zero, List.set_cons_succ]
  refine take_p 7 136 (.pointer (some ⟨ab, 3, none⟩)) rfl rfl (by kernel_rfl) (by kernel_rfl) (by kernel_rfl) (fun _ _ _ h => h) rfl (fun w => by go_simp) ?_
  try simp only [List.setIfInBounds_toArray, List.set_cons_zero, List.set_cons_succ]
  refine take_f 8 137 (.int .i64 k) [9, 10, 11, 12, 13, 14] rfl rfl (by kernel_rfl) (by kernel_rfl) (by kernel_rfl) (by kernel_rfl) (by kernel_rfl) (by kernel_rfl) (fun _ _ _ h => h) rfl (fun w hSw => by obtain ⟨g0, g1, g2, g3, g4, g5, g6⟩ := hSw; go_simp) hS ?_
  try simp only [List.setIfInBounds_toArray, List.set_cons_zero, List.set_cons_succ]
  refine ready_f 9 (o := { dst := some 138, op := Op.call { callee := Callee.value (Operand.func 24), args := #[Operand.tmp 131, Operand.tmp 133, Operand.tmp 135, Operand.tmp 137], argTypes := #[31, 3, 3, 3] }, type := 52, pos := "law.go:50", after := #[{ on := 2, ground := Ground.data }, { on := 4, ground := Ground.data }, { on := 6, ground := Ground.data }, { on := 8, ground := Ground.data }], guard := none }) (by kernel_rfl) rfl (fun K hK => ?_)
  go_simp
  refine (kR.out U B1.out).mono ?_
  rintro e U2 ⟨z0, z1, rfl, an⟩
  refine hK.out _ _ (fun h => absurd (by decide) h) ?_
  clear hK K
  try simp only [Act.put, List.setIfInBounds_toArray, List.set_cons_zero, List.set_cons_succ]
  obtain ⟨az0, cz0, rfl⟩ := an.l0.form
  obtain ⟨az1, cz1, rfl⟩ := an.l1.form
  rw [← HY0.out, ← HY1.out] at an
  have FR := hide1 (an.fresh T0.out B1.out.size)
  have RA := hide1 ((an.bl.block ab (lt_heap RA.out)).trans RA.out)
  have RN := hide1 ((an.bl.block nb (lt_heap RN.out)).trans RN.out)
  have B1 : Hid (Below w.heap.size w U2) := B1.out.trans (an.bl.mono B1.out.size)
  have Z0 := hide1 an.l0
  have Z1 := hide1 an.l1
  obtain ⟨m0, hm0⟩ : ∃ m, (N' 0).length = m := ⟨_, rfl⟩
  obtain ⟨m1, hm1⟩ : ∃ m, (N' 1).length = m := ⟨_, rfl⟩
  rw [hm0] at Z0 FR ⊢
  rw [hm1] at Z1 FR ⊢
  clear an hS hm0 hm1
  refine take_p 10 128 (.tuple #[.agg #[.slice az0 m0 cz0, .slice az1 m1 cz1], .int .i64 cc]) rfl rfl (by kernel_rfl) (by kernel_rfl) (by kernel_rfl) (fun _ _ _ h => h) rfl (fun w => by go_simp) ?_
  try simp only [List.setIfInBounds_toArray, List.set_cons_zero, List.set_cons_succ]
  refine take_p 11 139 (.agg #[.slice az0 m0 cz0, .slice az1 m1 cz1]) rfl rfl (by kernel_rfl) (by kernel_rfl) (by kernel_rfl) (fun _ _ _ h => h) rfl (fun w => by go_simp) ?_
  try simp only [List.setIfInBounds_toArray, List.set_cons_zero, List.set_cons_succ]
  refine take_p 12 140 (.int .i64 cc) rfl rfl (by kernel_rfl) (by kernel_rfl) (by kernel_rfl) (fun _ _ _ h => h) rfl (fun w => by go_simp) ?_
  try simp only [List.setIfInBounds_toArray, List.set_cons_zero, List.set_cons_succ]
  refine ready_f 13 (o := { dst := none, op := Op.store 27 (Operand.tmp 7) (Operand.tmp 139), type := 0, pos := "law.go:50", after := #[{ on := 11, ground := Ground.data }, { on := 9, ground := Ground.chain }, { on := 0, ground := Ground.phase }, { on := 1, ground := Ground.phase }, { on := 2, ground := Ground.phase }, { on := 3, ground := Ground.phase }, { on := 4, ground := Ground.phase }, { on := 5, ground := Ground.phase }, { on := 6, ground := Ground.phase }, { on := 7, ground := Ground.phase }, { on := 8, ground := Ground.phase }, { on := 9, ground := Ground.phase }, { on := 10, ground := Ground.phase }, { on := 11, ground := Ground.phase }, { on := 12, ground := Ground.textOnly Departure.lateStores }], guard := none }) (by kernel_rfl) rfl (fun K hK => ?_)
  rw [if_pos (by rfl)]
  refine wp_store_row 27 _ _ rfl nb _ rfl rfl 27 _ RN.out (by kernel_rfl) rfl (by kernel_rfl) ?_
  refine hK.out _ _ (fun h => absurd (by decide) h) ?_
  clear hK K
  refine take_p 14 8 (.int .i64 cc) rfl rfl (by kernel_rfl) (by kernel_rfl) (by kernel_rfl) (fun _ _ _ h => h) rfl (fun w => by go_simp) ?_
  try simp only [List.setIfInBounds_toArray, List.set_cons_zero, List.set_cons_succ]
  refine done_f (by kernel_rfl) ?_ _
  have RA := hide1 ((setRow_other U2 nb ab #[.slice az0 m0 cz0, .slice az1 m1 cz1] (by have := HS.out; omega)).trans RA.out)
  have B1 : Hid (Below w.heap.size w (U2.setRow nb #[.slice az0 m0 cz0, .slice az1 m1 cz1])) := below_setRow B1.out (by have := HS.out; omega) _
  have Z0 := hide1 (Z0.out.same (w' := U2.setRow nb #[.slice az0 m0 cz0, .slice az1 m1 cz1]) fun g hg => setRow_other _ _ _ _ (fun e => Z0.out.notBox RN.out (e ▸ hg)))
  have Z1 := hide1 (Z1.out.same (w' := U2.setRow nb #[.slice az0 m0 cz0, .slice az1 m1 cz1]) fun g hg => setRow_other _ _ _ _ (fun e => Z1.out.notBox RN.out (e ▸ hg)))
  have RN := hide1 (setRow_heap U2 nb _ #[.slice az0 m0 cz0, .slice az1 m1 cz1] _ _ RN.out)
  generalize U2.setRow nb _ = W3 at RA B1 Z0 Z1 RN ⊢
  obtain ⟨q0, q1, q2, q3, q4, q5⟩ := (box_act RA.out).1
  rw [Nat.zero_add] at q1 q2 q3 q4 q5
  go_wp2_with fail
  refine (kC.out W3 B1.out).mono ?_
  rintro e W4 ⟨rfl, x', hn, hv⟩
  have ST := T0.out.stepped B1.out Z0.out Z1.out FR.out hn hv
  obtain ⟨t4, z4, k4⟩ := ST
  have RN4 := hide1 ((k4 nb (by have := HS.out; omega) (lt_heap RN.out)).trans RN.out)
  have T4 := hide1 t4
  have Z4 := hide1 z4
  have RR4 := hide1 t4.row
  rw [HY0.out, HY1.out] at RR4
  have B4 : Hid (Below B w W4) := (B1.out.mono LB.out.1).trans (hv.below (T0.out.below B1.out).net)
  clear hn hv t4 z4 k4 q0 q1 q2 q3 q4 q5
  have hw5 : Below B w ((W4.setCell ⟨r, 0, none⟩ (.slice az0 m0 cz0)).setCell ⟨r, 1, none⟩ (.slice az1 m1 cz1)) := below_set2 B4.out T4.out.low
  have FIN := hide1 (T4.out.last Z4.out)
  have HW5 := hide1 hw5
  obtain ⟨e0, e1, _, _, _⟩ := box2 RN4.out
  obtain ⟨r0, r1, rz0, rz1, _⟩ := box2 RR4.out
  clear hw5
  go_wp2
  go_ret
  obtain ⟨z, hz⟩ := FIN.out
  exact ⟨rfl, _, z, hz, HW5.out⟩

set_option maxHeartbeats 4000000 in
theorem does_5 {B t r : Nat} {x y : Nat → Value} {N : Nat → List ByteArray} {w : World} (h : Tr B t r 27 x y N N w) (hs : Sm N) (q i k : Int) (s : ByteArray) (b : Nat) (_ : b < 256) :
    Calls Try.prog 7 #[.pointer (some ⟨t, 0, none⟩), .pointer (some ⟨r, 0, none⟩), .agg #[.int .i64 5, .int .i64 q, .int .i64 i, .int .i64 k, .string s, .int .u8 (b : Int)]] w fun e w' => e = .returned (.bool true) ∧ ∃ x' y', Tr B t r 27 x' y' (frgN N q i s) (frgN N q i s) w' ∧ Below B w w' := by
  have T0 := hide1 h
  have SS := hide1 hs
  obtain ⟨a0, c0, hy0⟩ := (h.own 0 (by omega)).form
  obtain ⟨a1, c1, hy1⟩ := (h.own 1 (by omega)).form
  obtain ⟨n0, hn0⟩ : ∃ n0, (N 0).length = n0 := ⟨_, rfl⟩
  obtain ⟨n1, hn1⟩ : ∃ n1, (N 1).length = n1 := ⟨_, rfl⟩
  rw [hn0] at hy0
  rw [hn1] at hy1
  have HY0 := hide1 hy0
  have HY1 := hide1 hy1
  have hrow := h.row
  rw [hy0, hy1] at hrow
  have HRW := hide1 hrow
  have hA : Below w.heap.size w (w.alloc (.cells #[.int .i64 5, .int .i64 q, .int .i64 i, .int .i64 k, .string s, .int .u8 (b : Int)] 29)) := below1 _
  obtain ⟨d0, d1, _, _, _⟩ := box2 ((hA.block r (lt_heap hrow)).trans hrow)
  have LB : Hid (B ≤ w.heap.size ∧ t < w.heap.size ∧ r < w.heap.size) := ⟨by have := h.net.low; have := lt_heap h.net.row; omega, lt_heap h.net.row, lt_heap hrow⟩
  have L0 : ∀ W, Below w.heap.size w W → Lst 0 W (.slice a0 n0 c0) (N 0) := fun W hb => hy0 ▸ ((h.below hb).own 0 (by omega)).mono (Nat.zero_le _)
  have L1 : ∀ W, Below w.heap.size w W → Lst 0 W (.slice a1 n1 c1) (N 1) := fun W hb => hy1 ▸ ((h.below hb).own 1 (by omega)).mono (Nat.zero_le _)
  have kR := hide1 (fun W (hb : Below w.heap.size w W) => rforge_any (L0 W hb) (L1 W hb) hs q i s)
  have kC := hide1 (fun W (hb : Below w.heap.size w W) => forge_any (h.below hb).net q i s)
  generalize frgC N q i s = cc at *
  generalize frgN N q i s = N' at *
  clear h hs hy0 hy1 hn0 hn1 hrow hA L0 L1
  go_enter Try.func7, Try.ntmps7
  go_upto_region 26 with (fail)
  have h2 := two_new w (.cells #[.int .i64 5, .int .i64 q, .int .i64 i, .int .i64 k, .string s, .int .u8 (b : Int)] 29) (.cells #[.slice a0 n0 c0, .slice a1 n1 c1] 27)
  have hB2 := below2 (w := w) (.cells #[.int .i64 5, .int .i64 q, .int .i64 i, .int .i64 k, .string s, .int .u8 (b : Int)] 29) (.cells #[.slice a0 n0 c0, .slice a1 n1 c1] 27)
  clear d0 d1
  generalize (w.alloc _).alloc _ = W1 at h2 hB2 ⊢
  have B1 := hide1 hB2
  obtain ⟨ab, hab⟩ : ∃ ab, w.heap.size = ab := ⟨_, rfl⟩
  obtain ⟨nb, hnb⟩ : ∃ nb, w.heap.size + 1 = nb := ⟨_, rfl⟩
  have HS : Hid (w.heap.size = ab ∧ ab + 1 = nb) := ⟨hab, by omega⟩
  rw [hnb, hab] at h2
  rw [hnb, hab]
  have RA := hide1 h2.1
  have RN := hide1 h2.2
  clear hab hnb h2 hB2
  have RR := hide1 ((B1.out.block r (lt_heap HRW.out)).trans HRW.out)
  have CA1 : Hid (W1.cell? ⟨ab, 1, none⟩ = some (.int .i64 q)) := by
    show W1.cell? ⟨ab, 1, none⟩ = _
    rw [cell_of_row W1 ab 1 _ _ _ RA.out]
    rfl
  have CA2 : Hid (W1.cell? ⟨ab, 2, none⟩ = some (.int .i64 i)) := by
    show W1.cell? ⟨ab, 2, none⟩ = _
    rw [cell_of_row W1 ab 2 _ _ _ RA.out]
    rfl
  have CA4 : Hid (W1.cell? ⟨ab, 4, none⟩ = some (.string s)) := by
    show W1.cell? ⟨ab, 4, none⟩ = _
    rw [cell_of_row W1 ab 4 _ _ _ RA.out]
    rfl
  refine region_f (F := [9, 13]) (S := fun W => W.cell? ⟨r, 0, none⟩ = some (.slice a0 n0 c0) ∧ W.cell? ⟨r, 1, none⟩ = some (.slice a1 n1 c1) ∧ r < W.heap.size ∧ ab < W.heap.size ∧ W.cell? ⟨ab, 1, none⟩ = some (.int .i64 q) ∧ W.cell? ⟨ab, 2, none⟩ = some (.int .i64 i) ∧ W.cell? ⟨ab, 4, none⟩ = some (.string s)) (by kernel_rfl) ⟨(box2 RR.out).1, (box2 RR.out).2.1, (box2 RR.out).2.2.2.2, lt_heap RA.out, CA1.out, CA2.out, CA4.out⟩ (fun hS => ?_)
  generalize hU : World.drew W1 = U at hS ⊢
  have RA : Hid (U.heap[ab]? = some (.cells #[.int .i64 5, .int .i64 q, .int .i64 i, .int .i64 k, .string s, .int .u8 (b : Int)] 29 (0, 0))) := by rw [← hU]; exact RA.out
  have RN : Hid (U.heap[nb]? = some (.cells #[.slice a0 n0 c0, .slice a1 n1 c1] 27 (0, 0))) := by rw [← hU]; exact RN.out
  have B1 : Hid (Below w.heap.size w U) := by rw [← hU]; exact B1.out.drew
  clear hU RR
  refine take_p 0 152 (.pointer (some ⟨r, 0, none⟩)) rfl rfl (by kernel_rfl) (by kernel_rfl) (by kernel_rfl) (fun _ _ _ h => h) rfl (fun w => by go_simp) ?_
  try simp only [List.setIfInBounds_toArray, List.set_cons_zero, List.set_cons_succ]
  refine take_p 1 153 (.pointer (some ⟨r, 0, none⟩)) rfl rfl (by kernel_rfl) (by kernel_rfl) (by kernel_rfl) (fun _ _ _ h => h) rfl (fun w => by go_simp) ?_
  try simp only [List.setIfInBounds_toArray, List.set_cons_zero, List.set_cons_succ]
  refine take_f 2 154 (.agg #[.slice a0 n0 c0, .slice a1 n1 c1]) [9, 10, 11, 12, 13, 14] rfl rfl (by kernel_rfl) (by kernel_rfl) (by kernel_rfl) (by kernel_rfl) (by kernel_rfl) (by kernel_rfl) (fun _ _ _ h => h) rfl (fun w hSw => by obtain ⟨g0, g1, g2, g3, g4, g5, g6⟩ := hSw; go_simp) hS ?_
  try simp only [List.setIfInBounds_toArray, List.set_cons_zero, List.set_cons_succ]
  refine take_p 3 155 (.pointer (some ⟨ab, 1, none⟩)) rfl rfl (by kernel_rfl) (by kernel_rfl) (by kernel_rfl) (fun _ _ _ h => h) rfl (fun w => by go_simp) ?_
  try simp only [List.setIfInBounds_toArray, List.set_cons_zero, List.set_cons_succ]
  refine take_f 4 156 (.int .i64 q) [9, 10, 11, 12, 13, 14] rfl rfl (by kernel_rfl) (by kernel_rfl) (by kernel_rfl) (by kernel_rfl) (by kernel_rfl) (by kernel_rfl) (fun _ _ _ h => h) rfl (fun w hSw => by obtain ⟨g0, g1, g2, g3, g4, g5, g6⟩ := hSw; go_simp) hS ?_
  try simp only [List.setIfInBounds_toArray, List.set_cons_zero, List.set_cons_succ]
  refine take_p 5 157 (.pointer (some ⟨ab, 2, none⟩)) rfl rfl (by kernel_rfl) (by kernel_rfl) (by kernel_rfl) (fun _ _ _ h => h) rfl (fun w => by go_simp) ?_
  try simp only [List.setIfInBounds_toArray, List.set_cons_zero, List.set_cons_succ]
  refine take_f 6 158 (.int .i64 i) [9, 10, 11, 12, 13, 14] rfl rfl (by kernel_rfl) (by kernel_rfl) (by kernel_rfl) (by kernel_rfl) (by kernel_rfl) (by kernel_rfl) (fun _ _ _ h => h) rfl (fun w hSw => by obtain ⟨g0, g1, g2, g3, g4, g5, g6⟩ := hSw; go_simp) hS ?_
  try simp only [List.setIfInBounds_toArray, List.set_cons_zero, List.set_cons_succ]
  refine take_p 7 159 (.pointer (some ⟨ab, 4, none⟩)) rfl rfl (by kernel_rfl) (by kernel_rfl) (by kernel_rfl) (fun _ _ _ h => h) rfl (fun w => by go_simp) ?_
  try simp only [List.setIfInBounds_toArray, List.set_cons_zero, List.set_cons_succ]
  refine take_f 8 160 (.string s) [9, 10, 11, 12, 13, 14] rfl rfl (by kernel_rfl) (by kernel_rfl) (by kernel_rfl) (by kernel_rfl) (by kernel_rfl) (by kernel_rfl) (fun _ _ _ h => h) rfl (fun w hSw => by obtain ⟨g0, g1, g2, g3, g4, g5, g6⟩ := hSw; go_simp) hS ?_
  try simp only [List.setIfInBounds_toArray, List.set_cons_zero, List.set_cons_succ]
  refine ready_f 9 (o := { dst := some 161, op := Op.call { callee := Callee.value (Operand.func 25), args := #[Operand.tmp 154, Operand.tmp 156, Operand.tmp 158, Operand.tmp 160], argTypes := #[31, 3, 3, 9] }, type := 52, pos := "law.go:53", after := #[{ on := 2, ground := Ground.data }, { on := 4, ground := Ground.data }, { on := 6, ground := Ground.data }, { on := 8, ground := Ground.data }], guard := none }) (by kernel_rfl) rfl (fun K hK => ?_)
  go_simp
  refine (kR.out U B1.out).mono ?_
  rintro e U2 ⟨z0, z1, rfl, an⟩
  refine hK.out _ _ (fun h => absurd (by decide) h) ?_
  clear hK K
  try simp only [Act.put, List.setIfInBounds_toArray, List.set_cons_zero, List.set_cons_succ]
  obtain ⟨az0, cz0, rfl⟩ := an.l0.form
  obtain ⟨az1, cz1, rfl⟩ := an.l1.form
  rw [← HY0.out, ← HY1.out] at an
  have FR := hide1 (an.fresh T0.out B1.out.size)
  have RA := hide1 ((an.bl.block ab (lt_heap RA.out)).trans RA.out)
  have RN := hide1 ((an.bl.block nb (lt_heap RN.out)).trans RN.out)
  have B1 : Hid (Below w.heap.size w U2) := B1.out.trans (an.bl.mono B1.out.size)
  have Z0 := hide1 an.l0
  have Z1 := hide1 an.l1
  obtain ⟨m0, hm0⟩ : ∃ m, (N' 0).length = m := ⟨_, rfl⟩
  obtain ⟨m1, hm1⟩ : ∃ m, (N' 1).length = m := ⟨_, rfl⟩
  rw [hm0] at Z0 FR ⊢
  rw [hm1] at Z1 FR ⊢
  clear an hS hm0 hm1
  refine take_p 10 151 (.tuple #[.agg #[.slice az0 m0 cz0, .slice az1 m1 cz1], .int .i64 cc]) rfl rfl (by kernel_rfl) (by kernel_rfl) (by kernel_rfl) (fun _ _ _ h => h) rfl (fun w => by go_simp) ?_
  try simp only [List.setIfInBounds_toArray, List.set_cons_zero, List.set_cons_succ]
  refine take_p 11 162 (.agg #[.slice az0 m0 cz0, .slice az1 m1 cz1]) rfl rfl (by kernel_rfl) (by kernel_rfl) (by kernel_rfl) (fun _ _ _ h => h) rfl (fun w => by go_simp) ?_
  try simp only [List.setIfInBounds_toArray, List.set_cons_zero, List.set_cons_succ]
  refine take_p 12 163 (.int .i64 cc) rfl rfl (by kernel_rfl) (by kernel_rfl) (by kernel_rfl) (fun _ _ _ h => h) rfl (fun w => by go_simp) ?_
  try simp only [List.setIfInBounds_toArray, List.set_cons_zero, List.set_cons_succ]
  refine ready_f 13 (o := { dst := none, op := Op.store 27 (Operand.tmp 7) (Operand.tmp 162), type := 0, pos := "law.go:53", after := #[{ on := 11, ground := Ground.data }, { on := 9, ground := Ground.chain }, { on := 0, ground := Ground.phase }, { on := 1, ground := Ground.phase }, { on := 2, ground := Ground.phase }, { on := 3, ground := Ground.phase }, { on := 4, ground := Ground.phase }, { on := 5, ground := Ground.phase }, { on := 6, ground := Ground.phase }, { on := 7, ground := Ground.phase }, { on := 8, ground := Ground.phase }, { on := 9, ground := Ground.phase }, { on := 10, ground := Ground.phase }, { on := 11, ground := Ground.phase }, { on := 12, ground := Ground.textOnly Departure.lateStores }], guard := none }) (by kernel_rfl) rfl (fun K hK => ?_)
  rw [if_pos (by rfl)]
  refine wp_store_row 27 _ _ rfl nb _ rfl rfl 27 _ RN.out (by kernel_rfl) rfl (by kernel_rfl) ?_
  refine hK.out _ _ (fun h => absurd (by decide) h) ?_
  clear hK K
  refine take_p 14 8 (.int .i64 cc) rfl rfl (by kernel_rfl) (by kernel_rfl) (by kernel_rfl) (fun _ _ _ h => h) rfl (fun w => by go_simp) ?_
  try simp only [List.setIfInBounds_toArray, List.set_cons_zero, List.set_cons_succ]
  refine done_f (by kernel_rfl) ?_ _
  have RA := hide1 ((setRow_other U2 nb ab #[.slice az0 m0 cz0, .slice az1 m1 cz1] (by have := HS.out; omega)).trans RA.out)
  have B1 : Hid (Below w.heap.size w (U2.setRow nb #[.slice az0 m0 cz0, .slice az1 m1 cz1])) := below_setRow B1.out (by have := HS.out; omega) _
  have Z0 := hide1 (Z0.out.same (w' := U2.setRow nb #[.slice az0 m0 cz0, .slice az1 m1 cz1]) fun g hg => setRow_other _ _ _ _ (fun e => Z0.out.notBox RN.out (e ▸ hg)))
  have Z1 := hide1 (Z1.out.same (w' := U2.setRow nb #[.slice az0 m0 cz0, .slice az1 m1 cz1]) fun g hg => setRow_other _ _ _ _ (fun e => Z1.out.notBox RN.out (e ▸ hg)))
  have RN := hide1 (setRow_heap U2 nb _ #[.slice az0 m0 cz0, .slice az1 m1 cz1] _ _ RN.out)
  generalize U2.setRow nb _ = W3 at RA B1 Z0 Z1 RN ⊢
  obtain ⟨q0, q1, q2, q3, q4, q5⟩ := (box_act RA.out).1
  rw [Nat.zero_add] at q1 q2 q3 q4 q5
  go_wp2_with fail
  refine (kC.out W3 B1.out).mono ?_
  rintro e W4 ⟨rfl, x', hn, hv⟩
  have ST := T0.out.stepped B1.out Z0.out Z1.out FR.out hn hv
  obtain ⟨t4, z4, k4⟩ := ST
  have RN4 := hide1 ((k4 nb (by have := HS.out; omega) (lt_heap RN.out)).trans RN.out)
  have T4 := hide1 t4
  have Z4 := hide1 z4
  have RR4 := hide1 t4.row
  rw [HY0.out, HY1.out] at RR4
  have B4 : Hid (Below B w W4) := (B1.out.mono LB.out.1).trans (hv.below (T0.out.below B1.out).net)
  clear hn hv t4 z4 k4 q0 q1 q2 q3 q4 q5
  have hw5 : Below B w ((W4.setCell ⟨r, 0, none⟩ (.slice az0 m0 cz0)).setCell ⟨r, 1, none⟩ (.slice az1 m1 cz1)) := below_set2 B4.out T4.out.low
  have FIN := hide1 (T4.out.last Z4.out)
  have HW5 := hide1 hw5
  obtain ⟨e0, e1, _, _, _⟩ := box2 RN4.out
  obtain ⟨r0, r1, rz0, rz1, _⟩ := box2 RR4.out
  clear hw5
  go_wp2
  go_ret
  obtain ⟨z, hz⟩ := FIN.out
  exact ⟨rfl, _, z, hz, HW5.out⟩

set_option maxHeartbeats 4000000 in
theorem does_6 {B t r : Nat} {x y : Nat → Value} {N : Nat → List ByteArray} {w : World} (h : Tr B t r 27 x y N N w) (hs : Sm N) (q i k : Int) (s : ByteArray) (b : Nat) (hb256 : b < 256) :
    Calls Try.prog 7 #[.pointer (some ⟨t, 0, none⟩), .pointer (some ⟨r, 0, none⟩), .agg #[.int .i64 6, .int .i64 q, .int .i64 i, .int .i64 k, .string s, .int .u8 (b : Int)]] w fun e w' => e = .returned (.bool true) ∧ ∃ x' y', Tr B t r 27 x' y' (trnN N q i k b) (trnN N q i k b) w' ∧ Below B w w' := by
  have T0 := hide1 h
  have SS := hide1 hs
  obtain ⟨a0, c0, hy0⟩ := (h.own 0 (by omega)).form
  obtain ⟨a1, c1, hy1⟩ := (h.own 1 (by omega)).form
  obtain ⟨n0, hn0⟩ : ∃ n0, (N 0).length = n0 := ⟨_, rfl⟩
  obtain ⟨n1, hn1⟩ : ∃ n1, (N 1).length = n1 := ⟨_, rfl⟩
  rw [hn0] at hy0
  rw [hn1] at hy1
  have HY0 := hide1 hy0
  have HY1 := hide1 hy1
  have hrow := h.row
  rw [hy0, hy1] at hrow
  have HRW := hide1 hrow
  have hA : Below w.heap.size w (w.alloc (.cells #[.int .i64 6, .int .i64 q, .int .i64 i, .int .i64 k, .string s, .int .u8 (b : Int)] 29)) := below1 _
  obtain ⟨d0, d1, _, _, _⟩ := box2 ((hA.block r (lt_heap hrow)).trans hrow)
  have LB : Hid (B ≤ w.heap.size ∧ t < w.heap.size ∧ r < w.heap.size) := ⟨by have := h.net.low; have := lt_heap h.net.row; omega, lt_heap h.net.row, lt_heap hrow⟩
  have L0 : ∀ W, Below w.heap.size w W → Lst 0 W (.slice a0 n0 c0) (N 0) := fun W hb => hy0 ▸ ((h.below hb).own 0 (by omega)).mono (Nat.zero_le _)
  have L1 : ∀ W, Below w.heap.size w W → Lst 0 W (.slice a1 n1 c1) (N 1) := fun W hb => hy1 ▸ ((h.below hb).own 1 (by omega)).mono (Nat.zero_le _)
  have kR := hide1 (fun W (hb : Below w.heap.size w W) => rturn_any (L0 W hb) (L1 W hb) hs q i k b hb256)
  have kC := hide1 (fun W (hb : Below w.heap.size w W) => turn_any (h.below hb).net q i k b hb256)
  generalize trnC N q i k = cc at *
  generalize trnN N q i k b = N' at *
  clear h hs hy0 hy1 hn0 hn1 hrow hA L0 L1
  go_enter Try.func7, Try.ntmps7
  go_upto_region 29 with (fail)
  have h2 := two_new w (.cells #[.int .i64 6, .int .i64 q, .int .i64 i, .int .i64 k, .string s, .int .u8 (b : Int)] 29) (.cells #[.slice a0 n0 c0, .slice a1 n1 c1] 27)
  have hB2 := below2 (w := w) (.cells #[.int .i64 6, .int .i64 q, .int .i64 i, .int .i64 k, .string s, .int .u8 (b : Int)] 29) (.cells #[.slice a0 n0 c0, .slice a1 n1 c1] 27)
  clear d0 d1
  generalize (w.alloc _).alloc _ = W1 at h2 hB2 ⊢
  have B1 := hide1 hB2
  obtain ⟨ab, hab⟩ : ∃ ab, w.heap.size = ab := ⟨_, rfl⟩
  obtain ⟨nb, hnb⟩ : ∃ nb, w.heap.size + 1 = nb := ⟨_, rfl⟩
  have HS : Hid (w.heap.size = ab ∧ ab + 1 = nb) := ⟨hab, by omega⟩
  rw [hnb, hab] at h2
  rw [hnb, hab]
  have RA := hide1 h2.1
  have RN := hide1 h2.2
  clear hab hnb h2 hB2
  have RR := hide1 ((B1.out.block r (lt_heap HRW.out)).trans HRW.out)
  have CA1 : Hid (W1.cell? ⟨ab, 1, none⟩ = some (.int .i64 q)) := by
    show W1.cell? ⟨ab, 1, none⟩ = _
    rw [cell_of_row W1 ab 1 _ _ _ RA.out]
    rfl
  have CA2 : Hid (W1.cell? ⟨ab, 2, none⟩ = some (.int .i64 i)) := by
    show W1.cell? ⟨ab, 2, none⟩ = _
    rw [cell_of_row W1 ab 2 _ _ _ RA.out]
    rfl
  have CA3 : Hid (W1.cell? ⟨ab, 3, none⟩ = some (.int .i64 k)) := by
    show W1.cell? ⟨ab, 3, none⟩ = _
    rw [cell_of_row W1 ab 3 _ _ _ RA.out]
    rfl
  have CA5 : Hid (W1.cell? ⟨ab, 5, none⟩ = some (.int .u8 (b : Int))) := by
    show W1.cell? ⟨ab, 5, none⟩ = _
    rw [cell_of_row W1 ab 5 _ _ _ RA.out]
    rfl
  refine region_f (F := [11, 15]) (S := fun W => W.cell? ⟨r, 0, none⟩ = some (.slice a0 n0 c0) ∧ W.cell? ⟨r, 1, none⟩ = some (.slice a1 n1 c1) ∧ r < W.heap.size ∧ ab < W.heap.size ∧ W.cell? ⟨ab, 1, none⟩ = some (.int .i64 q) ∧ W.cell? ⟨ab, 2, none⟩ = some (.int .i64 i) ∧ W.cell? ⟨ab, 3, none⟩ = some (.int .i64 k) ∧ W.cell? ⟨ab, 5, none⟩ = some (.int .u8 (b : Int))) (by kernel_rfl) ⟨(box2 RR.out).1, (box2 RR.out).2.1, (box2 RR.out).2.2.2.2, lt_heap RA.out, CA1.out, CA2.out, CA3.out, CA5.out⟩ (fun hS => ?_)
  generalize hU : World.drew W1 = U at hS ⊢
  have RA : Hid (U.heap[ab]? = some (.cells #[.int .i64 6, .int .i64 q, .int .i64 i, .int .i64 k, .string s, .int .u8 (b : Int)] 29 (0, 0))) := by rw [← hU]; exact RA.out
  have RN : Hid (U.heap[nb]? = some (.cells #[.slice a0 n0 c0, .slice a1 n1 c1] 27 (0, 0))) := by rw [← hU]; exact RN.out
  have B1 : Hid (Below w.heap.size w U) := by rw [← hU]; exact B1.out.drew
  clear hU RR
  refine take_p 0 175 (.pointer (some ⟨r, 0, none⟩)) rfl rfl (by kernel_rfl) (by kernel_rfl) (by kernel_rfl) (fun _ _ _ h => h) rfl (fun w => by go_simp) ?_
  try simp only [List.setIfInBounds_toArray, List.set_cons_zero, List.set_cons_succ]
  refine take_p 1 176 (.pointer (some ⟨r, 0, none⟩)) rfl rfl (by kernel_rfl) (by kernel_rfl) (by kernel_rfl) (fun _ _ _ h => h) rfl (fun w => by go_simp) ?_
  try simp only [List.setIfInBounds_toArray, List.set_cons_zero, List.set_cons_succ]
  refine take_f 2 177 (.agg #[.slice a0 n0 c0, .slice a1 n1 c1]) [11, 12, 13, 14, 15, 16] rfl rfl (by kernel_rfl) (by kernel_rfl) (by kernel_rfl) (by kernel_rfl) (by kernel_rfl) (by kernel_rfl) (fun _ _ _ h => h) rfl (fun w hSw => by obtain ⟨g0, g1, g2, g3, g4, g5, g6, g7⟩ := hSw; go_simp) hS ?_
  try simp only [List.setIfInBounds_toArray, List.set_cons_zero, List.set_cons_succ]
  refine take_p 3 178 (.pointer (some ⟨ab, 1, none⟩)) rfl rfl (by kernel_rfl) (by kernel_rfl) (by kernel_rfl) (fun _ _ _ h => h) rfl (fun w => by go_simp) ?_
  try simp only [List.setIfInBounds_toArray, List.set_cons_zero, List.set_cons_succ]
  refine take_f 4 179 (.int .i64 q) [11, 12, 13, 14, 15, 16] rfl rfl (by kernel_rfl) (by kernel_rfl) (by kernel_rfl) (by kernel_rfl) (by kernel_rfl) (by kernel_rfl) (fun _ _ _ h => h) rfl (fun w hSw => by obtain ⟨g0, g1, g2, g3, g4, g5, g6, g7⟩ := hSw; go_simp) hS ?_
  try simp only [List.setIfInBounds_toArray, List.set_cons_zero, List.set_cons_succ]
  refine take_p 5 180 (.pointer (some ⟨ab, 2, none⟩)) rfl rfl (by kernel_rfl) (by kernel_rfl) (by kernel_rfl) (fun _ _ _ h => h) rfl (fun w => by go_simp) ?_
  try simp only [List.setIfInBounds_toArray, List.set_cons_zero, List.set_cons_succ]
  refine take_f 6 181 (.int .i64 i) [11, 12, 13, 14, 15, 16] rfl rfl (by kernel_rfl) (by kernel_rfl) (by kernel_rfl) (by kernel_rfl) (by kernel_rfl) (by kernel_rfl) (fun _ _ _ h => h) rfl (fun w hSw => by obtain ⟨g0, g1, g2, g3, g4, g5, g6, g7⟩ := hSw; go_simp) hS ?_
  try simp only [List.setIfInBounds_toArray, List.set_cons_zero, List.set_cons_succ]
  refine take_p 7 182 (.pointer (some ⟨ab, 3, none⟩)) rfl rfl (by kernel_rfl) (by kernel_rfl) (by kernel_rfl) (fun _ _ _ h => h) rfl (fun w => by go_simp) ?_
  try simp only [List.setIfInBounds_toArray, List.set_cons_zero, List.set_cons_succ]
  refine take_f 8 183 (.int .i64 k) [11, 12, 13, 14, 15, 16] rfl rfl (by kernel_rfl) (by kernel_rfl) (by kernel_rfl) (by kernel_rfl) (by kernel_rfl) (by kernel_rfl) (fun _ _ _ h => h) rfl (fun w hSw => by obtain ⟨g0, g1, g2, g3, g4, g5, g6, g7⟩ := hSw; go_simp) hS ?_
  try simp only [List.setIfInBounds_toArray, List.set_cons_zero, List.set_cons_succ]
  refine take_p 9 184 (.pointer (some ⟨ab, 5, none⟩)) rfl rfl (by kernel_rfl) (by kernel_rfl) (by kernel_rfl) (fun _ _ _ h => h) rfl (fun w => by go_simp) ?_
  try simp only [List.setIfInBounds_toArray, List.set_cons_zero, List.set_cons_succ]
  refine take_f 10 185 (.int .u8 (b : Int)) [11, 12, 13, 14, 15, 16] rfl rfl (by kernel_rfl) (by kernel_rfl) (by kernel_rfl) (by kernel_rfl) (by kernel_rfl) (by kernel_rfl) (fun _ _ _ h => h) rfl (fun w hSw => by obtain ⟨g0, g1, g2, g3, g4, g5, g6, g7⟩ := hSw; go_simp) hS ?_
  try simp only [List.setIfInBounds_toArray, List.set_cons_zero, List.set_cons_succ]
  refine ready_f 11 (o := { dst := some 186, op := Op.call { callee := Callee.value (Operand.func 26), args := #[Operand.tmp 177, Operand.tmp 179, Operand.tmp 181, Operand.tmp 183, Operand.tmp 185], argTypes := #[31, 3, 3, 3, 5] }, type := 52, pos := "law.go:56", after := #[{ on := 2, ground := Ground.data }, { on := 4, ground := Ground.data }, { on := 6, ground := Ground.data }, { on := 8, ground := Ground.data }, { on := 10, ground := Ground.data }], guard := none }) (by kernel_rfl) rfl (fun K hK => ?_)
  go_simp
  refine (kR.out U B1.out).mono ?_
  rintro e U2 ⟨z0, z1, rfl, an⟩
  refine hK.out _ _ (fun h => absurd (by decide) h) ?_
  clear hK K
  try simp only [Act.put, List.setIfInBounds_toArray, List.set_cons_zero, List.set_cons_succ]
  obtain ⟨az0, cz0, rfl⟩ := an.l0.form
  obtain ⟨az1, cz1, rfl⟩ := an.l1.form
  rw [← HY0.out, ← HY1.out] at an
  have FR := hide1 (an.fresh T0.out B1.out.size)
  have RA := hide1 ((an.bl.block ab (lt_heap RA.out)).trans RA.out)
  have RN := hide1 ((an.bl.block nb (lt_heap RN.out)).trans RN.out)
  have B1 : Hid (Below w.heap.size w U2) := B1.out.trans (an.bl.mono B1.out.size)
  have Z0 := hide1 an.l0
  have Z1 := hide1 an.l1
  obtain ⟨m0, hm0⟩ : ∃ m, (N' 0).length = m := ⟨_, rfl⟩
  obtain ⟨m1, hm1⟩ : ∃ m, (N' 1).length = m := ⟨_, rfl⟩
  rw [hm0] at Z0 FR ⊢
  rw [hm1] at Z1 FR ⊢
  clear an hS hm0 hm1
  refine take_p 12 174 (.tuple #[.agg #[.slice az0 m0 cz0, .slice az1 m1 cz1], .int .i64 cc]) rfl rfl (by kernel_rfl) (by kernel_rfl) (by kernel_rfl) (fun _ _ _ h => h) rfl (fun w => by go_simp) ?_
  try simp only [List.setIfInBounds_toArray, List.set_cons_zero, List.set_cons_succ]
  refine take_p 13 187 (.agg #[.slice az0 m0 cz0, .slice az1 m1 cz1]) rfl rfl (by kernel_rfl) (by kernel_rfl) (by kernel_rfl) (fun _ _ _ h => h) rfl (fun w => by go_simp) ?_
  try simp only [List.setIfInBounds_toArray, List.set_cons_zero, List.set_cons_succ]
  refine take_p 14 188 (.int .i64 cc) rfl rfl (by kernel_rfl) (by kernel_rfl) (by kernel_rfl) (fun _ _ _ h => h) rfl (fun w => by go_simp) ?_
  try simp only [List.setIfInBounds_toArray, List.set_cons_zero, List.set_cons_succ]
  refine ready_f 15 (o := { dst := none, op := Op.store 27 (Operand.tmp 7) (Operand.tmp 187), type := 0, pos := "law.go:56", after := #[{ on := 13, ground := Ground.data }, { on := 11, ground := Ground.chain }, { on := 0, ground := Ground.phase }, { on := 1, ground := Ground.phase }, { on := 2, ground := Ground.phase }, { on := 3, ground := Ground.phase }, { on := 4, ground := Ground.phase }, { on := 5, ground := Ground.phase }, { on := 6, ground := Ground.phase }, { on := 7, ground := Ground.phase }, { on := 8, ground := Ground.phase }, { on := 9, ground := Ground.phase }, { on := 10, ground := Ground.phase }, { on := 11, ground := Ground.phase }, { on := 12, ground := Ground.phase }, { on := 13, ground := Ground.phase }, { on := 14, ground := Ground.textOnly Departure.lateStores }], guard := none }) (by kernel_rfl) rfl (fun K hK => ?_)
  rw [if_pos (by rfl)]
  refine wp_store_row 27 _ _ rfl nb _ rfl rfl 27 _ RN.out (by kernel_rfl) rfl (by kernel_rfl) ?_
  refine hK.out _ _ (fun h => absurd (by decide) h) ?_
  clear hK K
  refine take_p 16 8 (.int .i64 cc) rfl rfl (by kernel_rfl) (by kernel_rfl) (by kernel_rfl) (fun _ _ _ h => h) rfl (fun w => by go_simp) ?_
  try simp only [List.setIfInBounds_toArray, List.set_cons_zero, List.set_cons_succ]
  refine done_f (by kernel_rfl) ?_ _
  have RA := hide1 ((setRow_other U2 nb ab #[.slice az0 m0 cz0, .slice az1 m1 cz1] (by have := HS.out; omega)).trans RA.out)
  have B1 : Hid (Below w.heap.size w (U2.setRow nb #[.slice az0 m0 cz0, .slice az1 m1 cz1])) := below_setRow B1.out (by have := HS.out; omega) _
  have Z0 := hide1 (Z0.out.same (w' := U2.setRow nb #[.slice az0 m0 cz0, .slice az1 m1 cz1]) fun g hg => setRow_other _ _ _ _ (fun e => Z0.out.notBox RN.out (e ▸ hg)))
  have Z1 := hide1 (Z1.out.same (w' := U2.setRow nb #[.slice az0 m0 cz0, .slice az1 m1 cz1]) fun g hg => setRow_other _ _ _ _ (fun e => Z1.out.notBox RN.out (e ▸ hg)))
  have RN := hide1 (setRow_heap U2 nb _ #[.slice az0 m0 cz0, .slice az1 m1 cz1] _ _ RN.out)
  generalize U2.setRow nb _ = W3 at RA B1 Z0 Z1 RN ⊢
  obtain ⟨q0, q1, q2, q3, q4, q5⟩ := (box_act RA.out).1
  rw [Nat.zero_add] at q1 q2 q3 q4 q5
  go_wp2_with fail
  refine (kC.out W3 B1.out).mono ?_
  rintro e W4 ⟨rfl, x', hn, hv⟩
  have ST := T0.out.stepped B1.out Z0.out Z1.out FR.out hn hv
  obtain ⟨t4, z4, k4⟩ := ST
  have RN4 := hide1 ((k4 nb (by have := HS.out; omega) (lt_heap RN.out)).trans RN.out)
  have T4 := hide1 t4
  have Z4 := hide1 z4
  have RR4 := hide1 t4.row
  rw [HY0.out, HY1.out] at RR4
  have B4 : Hid (Below B w W4) := (B1.out.mono LB.out.1).trans (hv.below (T0.out.below B1.out).net)
  clear hn hv t4 z4 k4 q0 q1 q2 q3 q4 q5
  have hw5 : Below B w ((W4.setCell ⟨r, 0, none⟩ (.slice az0 m0 cz0)).setCell ⟨r, 1, none⟩ (.slice az1 m1 cz1)) := below_set2 B4.out T4.out.low
  have FIN := hide1 (T4.out.last Z4.out)
  have HW5 := hide1 hw5
  obtain ⟨e0, e1, _, _, _⟩ := box2 RN4.out
  obtain ⟨r0, r1, rz0, rz1, _⟩ := box2 RR4.out
  clear hw5
  go_wp2
  go_ret
  obtain ⟨z, hz⟩ := FIN.out
  exact ⟨rfl, _, z, hz, HW5.out⟩

end Go.Proofs.Ytfnedohampmnoaa
