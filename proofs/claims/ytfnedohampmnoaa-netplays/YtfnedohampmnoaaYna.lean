/- A call of both networks: Take, and Clear. -/
import Derived.Test.YtfnedohampmnoaaYm
namespace Go.Proofs.Ytfnedohampmnoaa
open Go.RowKit
set_option maxRecDepth 100000
attribute [local go_sem] not_any

set_option maxHeartbeats 4000000 in
theorem does_1 {B t r : Nat} {x y : Nat → Value} {N : Nat → List ByteArray} {w : World} (h : Tr B t r 27 x y N N w) (hs : Sm N) (q i k : Int) (s : ByteArray) (b : Nat) (_ : b < 256) :
    Calls Try.prog 7 #[.pointer (some ⟨t, 0, none⟩), .pointer (some ⟨r, 0, none⟩), .agg #[.int .i64 1, .int .i64 q, .int .i64 i, .int .i64 k, .string s, .int .u8 (b : Int)]] w fun e w' => e = .returned (.bool true) ∧ ∃ x' y', Tr B t r 27 x' y' (takN N q i) (takN N q i) w' ∧ Below B w w' := by
  have T0 := hide1 h
  have SS := hide1 hs
  obtain ⟨a0, c0, hy0⟩ := (h.own 0 (by omega)).form
  obtain ⟨a1, c1, hy1⟩ := (h.own 1 (by omega)).form
  obtain ⟨n0, hn0⟩ : ∃ n0, (N 0).length = n0 := ⟨_, rfl⟩
  obtain ⟨n1, hn1⟩ : ∃ n1, (N 1).length = n1 := ⟨_, rfl⟩
  rw [hn0] at hy0
  rw [hn1] at hy1
  have HY0 := hide1 hy0
  have HY1 := hide1 hy1
  have hrow := h.row
  rw [hy0, hy1] at hrow
  have HRW := hide1 hrow
  have hA : Below w.heap.size w (w.alloc (.cells #[.int .i64 1, .int .i64 q, .int .i64 i, .int .i64 k, .string s, .int .u8 (b : Int)] 29)) := below1 _
  obtain ⟨d0, d1, _, _, _⟩ := box2 ((hA.block r (lt_heap hrow)).trans hrow)
  have LB : Hid (B ≤ w.heap.size ∧ t < w.heap.size ∧ r < w.heap.size) := ⟨by have := h.net.low; have := lt_heap h.net.row; omega, lt_heap h.net.row, lt_heap hrow⟩
  have L0 : ∀ W, Below w.heap.size w W → Lst 0 W (.slice a0 n0 c0) (N 0) := fun W hb => hy0 ▸ ((h.below hb).own 0 (by omega)).mono (Nat.zero_le _)
  have L1 : ∀ W, Below w.heap.size w W → Lst 0 W (.slice a1 n1 c1) (N 1) := fun W hb => hy1 ▸ ((h.below hb).own 1 (by omega)).mono (Nat.zero_le _)
  have kR := hide1 (fun W (hb : Below w.heap.size w W) => rtake_any (L0 W hb) (L1 W hb) hs q i)
  have kC := hide1 (fun W (hb : Below w.heap.size w W) => take_any (h.below hb).net q i hs.len)
  generalize plc N q i = cc at *
  generalize takN N q i = N' at *
  generalize takS N q i = ts at *
  clear h hs hy0 hy1 hn0 hn1 hrow hA L0 L1
  go_enter Try.func7, Try.ntmps7
  go_upto_region 13 with (fail)
  have h2 := two_new w (.cells #[.int .i64 1, .int .i64 q, .int .i64 i, .int .i64 k, .string s, .int .u8 (b : Int)] 29) (.cells #[.slice a0 n0 c0, .slice a1 n1 c1] 27)
  have hB2 := below2 (w := w) (.cells #[.int .i64 1, .int .i64 q, .int .i64 i, .int .i64 k, .string s, .int .u8 (b : Int)] 29) (.cells #[.slice a0 n0 c0, .slice a1 n1 c1] 27)
  clear d0 d1
  generalize (w.alloc _).alloc _ = W1 at h2 hB2 ⊢
  have B1 := hide1 hB2
  obtain ⟨ab, hab⟩ : ∃ ab, w.heap.size = ab := ⟨_, rfl⟩
  obtain ⟨nb, hnb⟩ : ∃ nb, w.heap.size + 1 = nb := ⟨_, rfl⟩
  have HS : Hid (w.heap.size = ab ∧ ab + 1 = nb) := ⟨hab, by omega⟩
  rw [hnb, hab] at h2
  rw [hnb, hab]
  have RA := hide1 h2.1
  have RN := hide1 h2.2
  clear hab hnb h2 hB2
  have RR := hide1 ((B1.out.block r (lt_heap HRW.out)).trans HRW.out)
  have CA1 : Hid (W1.cell? ⟨ab, 1, none⟩ = some (.int .i64 q)) := by
    show W1.cell? ⟨ab, 1, none⟩ = _
    rw [cell_of_row W1 ab 1 _ _ _ RA.out]
    rfl
  have CA2 : Hid (W1.cell? ⟨ab, 2, none⟩ = some (.int .i64 i)) := by
    show W1.cell? ⟨ab, 2, none⟩ = _
    rw [cell_of_row W1 ab 2 _ _ _ RA.out]
    rfl
  refine region_f (F := [7, 13]) (S := fun W => W.cell? ⟨r, 0, none⟩ = some (.slice a0 n0 c0) ∧ W.cell? ⟨r, 1, none⟩ = some (.slice a1 n1 c1) ∧ r < W.heap.size ∧ ab < W.heap.size ∧ W.cell? ⟨ab, 1, none⟩ = some (.int .i64 q) ∧ W.cell? ⟨ab, 2, none⟩ = some (.int .i64 i)) (by kernel_rfl) ⟨(box2 RR.out).1, (box2 RR.out).2.1, (box2 RR.out).2.2.2.2, lt_heap RA.out, CA1.out, CA2.out⟩ (fun hS => ?_)
  generalize hU : World.drew W1 = U at hS ⊢
  have RA : Hid (U.heap[ab]? = some (.cells #[.int .i64 1, .int .i64 q, .int .i64 i, .int .i64 k, .string s, .int .u8 (b : Int)] 29 (0, 0))) := by rw [← hU]; exact RA.out
  have RN : Hid (U.heap[nb]? = some (.cells #[.slice a0 n0 c0, .slice a1 n1 c1] 27 (0, 0))) := by rw [← hU]; exact RN.out
  have B1 : Hid (Below w.heap.size w U) := by rw [← hU]; exact B1.out.drew
  clear hU RR
  refine take_p 0 61 (.pointer (some ⟨r, 0, none⟩)) rfl rfl (by kernel_rfl) (by kernel_rfl) (by kernel_rfl) (fun _ _ _ h => h) rfl (fun w => by go_simp) ?_
  try simp only [List.setIfInBounds_toArray, List.set_cons_zero, List.set_cons_succ]
  refine take_p 1 62 (.pointer (some ⟨r, 0, none⟩)) rfl rfl (by kernel_rfl) (by kernel_rfl) (by kernel_rfl) (fun _ _ _ h => h) rfl (fun w => by go_simp) ?_
  try simp only [List.setIfInBounds_toArray, List.set_cons_zero, List.set_cons_succ]
  refine take_f 2 63 (.agg #[.slice a0 n0 c0, .slice a1 n1 c1]) [7, 8, 9, 10, 11, 13, 14, 15] rfl rfl (by kernel_rfl) (by kernel_rfl) (by kernel_rfl) (by kernel_rfl) (by kernel_rfl) (by kernel_rfl) (fun _ _ _ h => h) rfl (fun w hSw => by obtain ⟨g0, g1, g2, g3, g4, g5⟩ := hSw; go_simp) hS ?_
  try simp only [List.setIfInBounds_toArray, List.set_cons_zero, List.set_cons_succ]
  refine take_p 3 64 (.pointer (some ⟨ab, 1, none⟩)) rfl rfl (by kernel_rfl) (by kernel_rfl) (by kernel_rfl) (fun _ _ _ h => h) rfl (fun w => by go_simp) ?_
  try simp only [List.setIfInBounds_toArray, List.set_cons_zero, List.set_cons_succ]
  refine take_f 4 65 (.int .i64 q) [7, 8, 9, 10, 11, 13, 14, 15] rfl rfl (by kernel_rfl) (by kernel_rfl) (by kernel_rfl) (by kernel_rfl) (by kernel_rfl) (by kernel_rfl) (fun _ _ _ h => h) rfl (fun w hSw => by obtain ⟨g0, g1, g2, g3, g4, g5⟩ := hSw; go_simp) hS ?_
  try simp only [List.setIfInBounds_toArray, List.set_cons_zero, List.set_cons_succ]
  refine take_p 5 66 (.pointer (some ⟨ab, 2, none⟩)) rfl rfl (by kernel_rfl) (by kernel_rfl) (by kernel_rfl) (fun _ _ _ h => h) rfl (fun w => by go_simp) ?_
  try simp only [List.setIfInBounds_toArray, List.set_cons_zero, List.set_cons_succ]
  refine take_f 6 67 (.int .i64 i) [7, 8, 9, 10, 11, 13, 14, 15] rfl rfl (by kernel_rfl) (by kernel_rfl) (by kernel_rfl) (by kernel_rfl) (by kernel_rfl) (by kernel_rfl) (fun _ _ _ h => h) rfl (fun w hSw => by obtain ⟨g0, g1, g2, g3, g4, g5⟩ := hSw; go_simp) hS ?_
  try simp only [List.setIfInBounds_toArray, List.set_cons_zero, List.set_cons_succ]
  refine ready2_f 7 12 (o := { dst := some 68, op := Op.call { callee := Callee.value (Operand.func 22), args := #[Operand.tmp 63, Operand.tmp 65, Operand.tmp 67], argTypes := #[31, 3, 3] }, type := 54, pos := "law.go:40", after := #[{ on := 2, ground := Ground.data }, { on := 4, ground := Ground.data }, { on := 6, ground := Ground.data }], guard := none }) (o' := { dst := some 11, op := Op.alloc 27, type := 0, pos := "law.go:40", after := #[], guard := none }) (by kernel_rfl) rfl rfl (fun K hK => ?_) (fun K hK => ?_)
  · go_simp
    refine (kR.out U B1.out).mono ?_
    rintro e U2 ⟨z0, z1, rfl, an⟩
    refine hK.out _ _ (fun h => absurd (by decide) h) ?_
    clear hK K
    try simp only [Act.put, List.setIfInBounds_toArray, List.set_cons_zero, List.set_cons_succ]
    obtain ⟨az0, cz0, rfl⟩ := an.l0.form
    obtain ⟨az1, cz1, rfl⟩ := an.l1.form
    rw [← HY0.out, ← HY1.out] at an
    have FR := hide1 (an.fresh T0.out B1.out.size)
    have RA := hide1 ((an.bl.block ab (lt_heap RA.out)).trans RA.out)
    have RN := hide1 ((an.bl.block nb (lt_heap RN.out)).trans RN.out)
    have B1 : Hid (Below w.heap.size w U2) := B1.out.trans (an.bl.mono B1.out.size)
    have Z0 := hide1 an.l0
    have Z1 := hide1 an.l1
    clear an
    obtain ⟨m0, hm0⟩ : ∃ m, (N' 0).length = m := ⟨_, rfl⟩
    obtain ⟨m1, hm1⟩ : ∃ m, (N' 1).length = m := ⟨_, rfl⟩
    rw [hm0] at Z0 FR ⊢
    rw [hm1] at Z1 FR ⊢
    clear hS hm0 hm1
    refine take_p 8 60 (.tuple #[.agg #[.slice az0 m0 cz0, .slice az1 m1 cz1], .string ts, .int .i64 cc]) rfl rfl (by kernel_rfl) (by kernel_rfl) (by kernel_rfl) (fun _ _ _ h => h) rfl (fun w => by go_simp) ?_
    try simp only [List.setIfInBounds_toArray, List.set_cons_zero, List.set_cons_succ]
    refine take_p 9 69 (.agg #[.slice az0 m0 cz0, .slice az1 m1 cz1]) rfl rfl (by kernel_rfl) (by kernel_rfl) (by kernel_rfl) (fun _ _ _ h => h) rfl (fun w => by go_simp) ?_
    try simp only [List.setIfInBounds_toArray, List.set_cons_zero, List.set_cons_succ]
    refine take_p 10 70 (.string ts) rfl rfl (by kernel_rfl) (by kernel_rfl) (by kernel_rfl) (fun _ _ _ h => h) rfl (fun w => by go_simp) ?_
    try simp only [List.setIfInBounds_toArray, List.set_cons_zero, List.set_cons_succ]
    refine take_p 11 71 (.int .i64 cc) rfl rfl (by kernel_rfl) (by kernel_rfl) (by kernel_rfl) (fun _ _ _ h => h) rfl (fun w => by go_simp) ?_
    try simp only [List.setIfInBounds_toArray, List.set_cons_zero, List.set_cons_succ]
    refine ready_f 12 (o := { dst := some 11, op := Op.alloc 27, type := 0, pos := "law.go:40", after := #[], guard := none }) (by kernel_rfl) rfl (fun K hK => ?_)
    go_simp
    refine hK.out _ _ (fun _ h => ⟨((below1 _).cell (p := ⟨r, 0, none⟩) h.2.2.1).trans h.1, ((below1 _).cell (p := ⟨r, 1, none⟩) h.2.2.1).trans h.2.1, Nat.lt_of_lt_of_le h.2.2.1 (below1 _).size, Nat.lt_of_lt_of_le h.2.2.2.1 (below1 _).size, ((below1 _).cell (p := ⟨ab, 1, none⟩) h.2.2.2.1).trans h.2.2.2.2.1, ((below1 _).cell (p := ⟨ab, 2, none⟩) h.2.2.2.1).trans h.2.2.2.2.2⟩) ?_
    clear hK K
    try simp only [Act.put, List.setIfInBounds_toArray, List.set_cons_zero, List.set_cons_succ]
    have hbl : Below U2.heap.size U2 (U2.alloc (.cells #[.slice none 0 0, .slice none 0 0] 27)) := below1 _
    have RL := hide1 (heap_alloc_new U2 (.cells #[.slice none 0 0, .slice none 0 0] 27))
    have LBL0 : Hid (nb < U2.heap.size) := lt_heap RN.out
    generalize World.alloc U2 _ = V at hbl RL ⊢
    obtain ⟨lb, hlb⟩ : ∃ lb, U2.heap.size = lb := ⟨_, rfl⟩
    have RA := hide1 ((hbl.block ab (lt_heap RA.out)).trans RA.out)
    have RN := hide1 ((hbl.block nb (lt_heap RN.out)).trans RN.out)
    have B1 : Hid (Below w.heap.size w V) := B1.out.trans (hbl.mono B1.out.size)
    have Z0 := hide1 (Z0.out.below hbl (Nat.le_refl _))
    have Z1 := hide1 (Z1.out.below hbl (Nat.le_refl _))
    rw [hlb] at RL LBL0 ⊢
    have LBL := LBL0
    clear hbl hlb LBL0
    refine ready_f 13 (o := { dst := none, op := Op.store 27 (Operand.tmp 11) (Operand.tmp 69), type := 0, pos := "law.go:40", after := #[{ on := 12, ground := Ground.data }, { on := 9, ground := Ground.data }, { on := 7, ground := Ground.chain }, { on := 0, ground := Ground.phase }, { on := 1, ground := Ground.phase }, { on := 2, ground := Ground.phase }, { on := 3, ground := Ground.phase }, { on := 4, ground := Ground.phase }, { on := 5, ground := Ground.phase }, { on := 6, ground := Ground.phase }, { on := 7, ground := Ground.phase }, { on := 8, ground := Ground.phase }, { on := 9, ground := Ground.phase }, { on := 10, ground := Ground.textOnly Departure.lateStores }, { on := 11, ground := Ground.textOnly Departure.lateStores }, { on := 12, ground := Ground.phase }], guard := none }) (by kernel_rfl) rfl (fun K hK => ?_)
    rw [if_pos (by rfl)]
    refine wp_store_row 27 _ _ rfl lb _ rfl rfl 27 _ RL.out (by kernel_rfl) rfl (by kernel_rfl) ?_
    refine hK.out _ _ (fun h => absurd (by decide) h) ?_
    clear hK K
    refine take_p 14 12 (.string ts) rfl rfl (by kernel_rfl) (by kernel_rfl) (by kernel_rfl) (fun _ _ _ h => h) rfl (fun w => by go_simp) ?_
    try simp only [List.setIfInBounds_toArray, List.set_cons_zero, List.set_cons_succ]
    refine take_p 15 13 (.int .i64 cc) rfl rfl (by kernel_rfl) (by kernel_rfl) (by kernel_rfl) (fun _ _ _ h => h) rfl (fun w => by go_simp) ?_
    try simp only [List.setIfInBounds_toArray, List.set_cons_zero, List.set_cons_succ]
    refine done_f (by kernel_rfl) ?_ _
    have RA := hide1 ((setRow_other V lb ab #[.slice az0 m0 cz0, .slice az1 m1 cz1] (by have := LBL.out; have := HS.out; omega)).trans RA.out)
    have RN := hide1 ((setRow_other V lb nb #[.slice az0 m0 cz0, .slice az1 m1 cz1] (by have := LBL.out; have := HS.out; omega)).trans RN.out)
    have B1 : Hid (Below w.heap.size w (V.setRow lb #[.slice az0 m0 cz0, .slice az1 m1 cz1])) := below_setRow B1.out (by have := LBL.out; have := HS.out; omega) _
    have Z0 := hide1 (Z0.out.same (w' := V.setRow lb #[.slice az0 m0 cz0, .slice az1 m1 cz1]) fun g hg => setRow_other _ _ _ _ (fun e => Z0.out.notBox RL.out (e ▸ hg)))
    have Z1 := hide1 (Z1.out.same (w' := V.setRow lb #[.slice az0 m0 cz0, .slice az1 m1 cz1]) fun g hg => setRow_other _ _ _ _ (fun e => Z1.out.notBox RL.out (e ▸ hg)))
    have RL := hide1 (setRow_heap V lb _ #[.slice az0 m0 cz0, .slice az1 m1 cz1] _ _ RL.out)
    generalize V.setRow lb _ = W3 at RA RN B1 Z0 Z1 RL ⊢
    obtain ⟨q0, q1, q2, q3, q4, q5⟩ := (box_act RA.out).1
    rw [Nat.zero_add] at q1 q2 q3 q4 q5
    go_wp2_with fail
    refine (kC.out W3 B1.out).mono ?_
    rintro e W4 ⟨rfl, x', hn, hv⟩
    have ST := T0.out.stepped B1.out Z0.out Z1.out FR.out hn hv
    obtain ⟨t4, z4, k4⟩ := ST
    have RN4 := hide1 ((k4 nb (by have := HS.out; omega) (lt_heap RN.out)).trans RN.out)
    have RL4 := (k4 lb (by have := LBL.out; have := HS.out; omega) (lt_heap RL.out)).trans RL.out
    have BX := hide1 (t4.boxed (W' := (W4.setCell ⟨nb, 0, none⟩ (.slice az0 m0 cz0)).setCell ⟨nb, 1, none⟩ (.slice az1 m1 cz1)) z4 RN4.out (by have := LB.out; have := HS.out; omega) (by have := LB.out; have := HS.out; omega) (fun g hg => by rw [heap_setCell_other _ _ _ _ hg, heap_setCell_other _ _ _ _ hg]))
    have B4 : Hid (Below B w ((W4.setCell ⟨nb, 0, none⟩ (.slice az0 m0 cz0)).setCell ⟨nb, 1, none⟩ (.slice az1 m1 cz1))) := below_set2 ((B1.out.mono LB.out.1).trans (hv.below (T0.out.below B1.out).net)) (by have := LB.out; have := HS.out; omega)
    have RN5 := hide1 (set_box2 (x' := .slice az0 m0 cz0) (y' := .slice az1 m1 cz1) RN4.out)
    obtain ⟨l0, l1, _, _, _⟩ := box2 RL4
    obtain ⟨p0, p1, pz0, pz1, _⟩ := box2 RN4.out
    clear hn hv t4 z4 k4 q0 q1 q2 q3 q4 q5
    go_upto_region 31 with (fail)
    clear l0 l1 p0 p1 pz0 pz1 RL4 RN4
    generalize (W4.setCell ⟨nb, 0, none⟩ (.slice az0 m0 cz0)).setCell ⟨nb, 1, none⟩ (.slice az1 m1 cz1) = W5 at BX B4 RN5 ⊢
    have T4 := hide1 BX.out.1
    have Z4 := hide1 BX.out.2
    have RR4 := hide1 T4.out.row
    rw [HY0.out, HY1.out] at RR4
    have hw5 : Below B w ((W5.setCell ⟨r, 0, none⟩ (.slice az0 m0 cz0)).setCell ⟨r, 1, none⟩ (.slice az1 m1 cz1)) := below_set2 B4.out T4.out.low
    have FIN := hide1 (T4.out.last Z4.out)
    have HW5 := hide1 hw5
    obtain ⟨e0, e1, _, _, _⟩ := box2 RN5.out
    obtain ⟨r0, r1, rz0, rz1, _⟩ := box2 RR4.out
    clear hw5
    go_wp2
    go_ret
    obtain ⟨z, hz⟩ := FIN.out
    exact ⟨rfl, _, z, hz, HW5.out⟩
  · go_simp
    refine hK.out _ _ (fun _ h => ⟨((below1 _).cell (p := ⟨r, 0, none⟩) h.2.2.1).trans h.1, ((below1 _).cell (p := ⟨r, 1, none⟩) h.2.2.1).trans h.2.1, Nat.lt_of_lt_of_le h.2.2.1 (below1 _).size, Nat.lt_of_lt_of_le h.2.2.2.1 (below1 _).size, ((below1 _).cell (p := ⟨ab, 1, none⟩) h.2.2.2.1).trans h.2.2.2.2.1, ((below1 _).cell (p := ⟨ab, 2, none⟩) h.2.2.2.1).trans h.2.2.2.2.2⟩) ?_
    clear hK K
    try simp only [Act.put, List.setIfInBounds_toArray, List.set_cons_zero, List.set_cons_succ]
    have hbl : Below U.heap.size U (U.alloc (.cells #[.slice none 0 0, .slice none 0 0] 27)) := below1 _
    have RL := hide1 (heap_alloc_new U (.cells #[.slice none 0 0, .slice none 0 0] 27))
    have LBL0 : Hid (nb < U.heap.size) := lt_heap RN.out
    generalize World.alloc U _ = U1 at hbl RL ⊢
    obtain ⟨lb, hlb⟩ : ∃ lb, U.heap.size = lb := ⟨_, rfl⟩
    have RA := hide1 ((hbl.block ab (lt_heap RA.out)).trans RA.out)
    have RN := hide1 ((hbl.block nb (lt_heap RN.out)).trans RN.out)
    have B1 : Hid (Below w.heap.size w U1) := B1.out.trans (hbl.mono B1.out.size)
    rw [hlb] at RL LBL0 ⊢
    have LBL := LBL0
    clear hbl hlb LBL0
    refine ready_f 7 (o := { dst := some 68, op := Op.call { callee := Callee.value (Operand.func 22), args := #[Operand.tmp 63, Operand.tmp 65, Operand.tmp 67], argTypes := #[31, 3, 3] }, type := 54, pos := "law.go:40", after := #[{ on := 2, ground := Ground.data }, { on := 4, ground := Ground.data }, { on := 6, ground := Ground.data }], guard := none }) (by kernel_rfl) rfl (fun K hK => ?_)
    go_simp
    refine (kR.out U1 B1.out).mono ?_
    rintro e V ⟨z0, z1, rfl, an⟩
    refine hK.out _ _ (fun h => absurd (by decide) h) ?_
    clear hK K
    try simp only [Act.put, List.setIfInBounds_toArray, List.set_cons_zero, List.set_cons_succ]
    have RL := hide1 ((an.bl.block lb (lt_heap RL.out)).trans RL.out)
    obtain ⟨az0, cz0, rfl⟩ := an.l0.form
    obtain ⟨az1, cz1, rfl⟩ := an.l1.form
    rw [← HY0.out, ← HY1.out] at an
    have FR := hide1 (an.fresh T0.out B1.out.size)
    have RA := hide1 ((an.bl.block ab (lt_heap RA.out)).trans RA.out)
    have RN := hide1 ((an.bl.block nb (lt_heap RN.out)).trans RN.out)
    have B1 : Hid (Below w.heap.size w V) := B1.out.trans (an.bl.mono B1.out.size)
    have Z0 := hide1 an.l0
    have Z1 := hide1 an.l1
    clear an
    obtain ⟨m0, hm0⟩ : ∃ m, (N' 0).length = m := ⟨_, rfl⟩
    obtain ⟨m1, hm1⟩ : ∃ m, (N' 1).length = m := ⟨_, rfl⟩
    rw [hm0] at Z0 FR ⊢
    rw [hm1] at Z1 FR ⊢
    clear hS hm0 hm1
    refine take_p 8 60 (.tuple #[.agg #[.slice az0 m0 cz0, .slice az1 m1 cz1], .string ts, .int .i64 cc]) rfl rfl (by kernel_rfl) (by kernel_rfl) (by kernel_rfl) (fun _ _ _ h => h) rfl (fun w => by go_simp) ?_
    try simp only [List.setIfInBounds_toArray, List.set_cons_zero, List.set_cons_succ]
    refine take_p 9 69 (.agg #[.slice az0 m0 cz0, .slice az1 m1 cz1]) rfl rfl (by kernel_rfl) (by kernel_rfl) (by kernel_rfl) (fun _ _ _ h => h) rfl (fun w => by go_simp) ?_
    try simp only [List.setIfInBounds_toArray, List.set_cons_zero, List.set_cons_succ]
    refine take_p 10 70 (.string ts) rfl rfl (by kernel_rfl) (by kernel_rfl) (by kernel_rfl) (fun _ _ _ h => h) rfl (fun w => by go_simp) ?_
    try simp only [List.setIfInBounds_toArray, List.set_cons_zero, List.set_cons_succ]
    refine take_p 11 71 (.int .i64 cc) rfl rfl (by kernel_rfl) (by kernel_rfl) (by kernel_rfl) (fun _ _ _ h => h) rfl (fun w => by go_simp) ?_
    try simp only [List.setIfInBounds_toArray, List.set_cons_zero, List.set_cons_succ]
    refine ready_f 13 (o := { dst := none, op := Op.store 27 (Operand.tmp 11) (Operand.tmp 69), type := 0, pos := "law.go:40", after := #[{ on := 12, ground := Ground.data }, { on := 9, ground := Ground.data }, { on := 7, ground := Ground.chain }, { on := 0, ground := Ground.phase }, { on := 1, ground := Ground.phase }, { on := 2, ground := Ground.phase }, { on := 3, ground := Ground.phase }, { on := 4, ground := Ground.phase }, { on := 5, ground := Ground.phase }, { on := 6, ground := Ground.phase }, { on := 7, ground := Ground.phase }, { on := 8, ground := Ground.phase }, { on := 9, ground := Ground.phase }, { on := 10, ground := Ground.textOnly Departure.lateStores }, { on := 11, ground := Ground.textOnly Departure.lateStores }, { on := 12, ground := Ground.phase }], guard := none }) (by kernel_rfl) rfl (fun K hK => ?_)
    rw [if_pos (by rfl)]
    refine wp_store_row 27 _ _ rfl lb _ rfl rfl 27 _ RL.out (by kernel_rfl) rfl (by kernel_rfl) ?_
    refine hK.out _ _ (fun h => absurd (by decide) h) ?_
    clear hK K
    refine take_p 14 12 (.string ts) rfl rfl (by kernel_rfl) (by kernel_rfl) (by kernel_rfl) (fun _ _ _ h => h) rfl (fun w => by go_simp) ?_
    try simp only [List.setIfInBounds_toArray, List.set_cons_zero, List.set_cons_succ]
    refine take_p 15 13 (.int .i64 cc) rfl rfl (by kernel_rfl) (by kernel_rfl) (by kernel_rfl) (fun _ _ _ h => h) rfl (fun w => by go_simp) ?_
    try simp only [List.setIfInBounds_toArray, List.set_cons_zero, List.set_cons_succ]
    refine done_f (by kernel_rfl) ?_ _
    have RA := hide1 ((setRow_other V lb ab #[.slice az0 m0 cz0, .slice az1 m1 cz1] (by have := LBL.out; have := HS.out; omega)).trans RA.out)
    have RN := hide1 ((setRow_other V lb nb #[.slice az0 m0 cz0, .slice az1 m1 cz1] (by have := LBL.out; have := HS.out; omega)).trans RN.out)
    have B1 : Hid (Below w.heap.size w (V.setRow lb #[.slice az0 m0 cz0, .slice az1 m1 cz1])) := below_setRow B1.out (by have := LBL.out; have := HS.out; omega) _
    have Z0 := hide1 (Z0.out.same (w' := V.setRow lb #[.slice az0 m0 cz0, .slice az1 m1 cz1]) fun g hg => setRow_other _ _ _ _ (fun e => Z0.out.notBox RL.out (e ▸ hg)))
    have Z1 := hide1 (Z1.out.same (w' := V.setRow lb #[.slice az0 m0 cz0, .slice az1 m1 cz1]) fun g hg => setRow_other _ _ _ _ (fun e => Z1.out.notBox RL.out (e ▸ hg)))
    have RL := hide1 (setRow_heap V lb _ #[.slice az0 m0 cz0, .slice az1 m1 cz1] _ _ RL.out)
    generalize V.setRow lb _ = W3 at RA RN B1 Z0 Z1 RL ⊢
    obtain ⟨q0, q1, q2, q3, q4, q5⟩ := (box_act RA.out).1
    rw [Nat.zero_add] at q1 q2 q3 q4 q5
    go_wp2_with fail
    refine (kC.out W3 B1.out).mono ?_
    rintro e W4 ⟨rfl, x', hn, hv⟩
    have ST := T0.out.stepped B1.out Z0.out Z1.out FR.out hn hv
    obtain ⟨t4, z4, k4⟩ := ST
    have RN4 := hide1 ((k4 nb (by have := HS.out; omega) (lt_heap RN.out)).trans RN.out)
    have RL4 := (k4 lb (by have := LBL.out; have := HS.out; omega) (lt_heap RL.out)).trans RL.out
    have BX := hide1 (t4.boxed (W' := (W4.setCell ⟨nb, 0, none⟩ (.slice az0 m0 cz0)).setCell ⟨nb, 1, none⟩ (.slice az1 m1 cz1)) z4 RN4.out (by have := LB.out; have := HS.out; omega) (by have := LB.out; have := HS.out; omega) (fun g hg => by rw [heap_setCell_other _ _ _ _ hg, heap_setCell_other _ _ _ _ hg]))
    have B4 : Hid (Below B w ((W4.setCell ⟨nb, 0, none⟩ (.slice az0 m0 cz0)).setCell ⟨nb, 1, none⟩ (.slice az1 m1 cz1))) := below_set2 ((B1.out.mono LB.out.1).trans (hv.below (T0.out.below B1.out).net)) (by have := LB.out; have := HS.out; omega)
    have RN5 := hide1 (set_box2 (x' := .slice az0 m0 cz0) (y' := .slice az1 m1 cz1) RN4.out)
    obtain ⟨l0, l1, _, _, _⟩ := box2 RL4
    obtain ⟨p0, p1, pz0, pz1, _⟩ := box2 RN4.out
    clear hn hv t4 z4 k4 q0 q1 q2 q3 q4 q5
    go_upto_region 31 with (fail)
    clear l0 l1 p0 p1 pz0 pz1 RL4 RN4
    generalize (W4.setCell ⟨nb, 0, none⟩ (.slice az0 m0 cz0)).setCell ⟨nb, 1, none⟩ (.slice az1 m1 cz1) = W5 at BX B4 RN5 ⊢
    have T4 := hide1 BX.out.1
    have Z4 := hide1 BX.out.2
    have RR4 := hide1 T4.out.row
    rw [HY0.out, HY1.out] at RR4
    have hw5 : Below B w ((W5.setCell ⟨r, 0, none⟩ (.slice az0 m0 cz0)).setCell ⟨r, 1, none⟩ (.slice az1 m1 cz1)) := below_set2 B4.out T4.out.low
    have FIN := hide1 (T4.out.last Z4.out)
    have HW5 := hide1 hw5
    obtain ⟨e0, e1, _, _, _⟩ := box2 RN5.out
    obtain ⟨r0, r1, rz0, rz1, _⟩ := box2 RR4.out
    clear hw5
    go_wp2
    go_ret
    obtain ⟨z, hz⟩ := FIN.out
    exact ⟨rfl, _, z, hz, HW5.out⟩

set_option maxHeartbeats 4000000 in
theorem does_bad {B t r : Nat} {x y : Nat → Value} {N : Nat → List ByteArray} {w : World} (h : Tr B t r 27 x y N N w) (hs : Sm N) (kd : Int) (h0 : kd ≠ 0) (h1 : kd ≠ 1) (h2 : kd ≠ 2) (h3 : kd ≠ 3) (h4 : kd ≠ 4) (h5 : kd ≠ 5) (h6 : kd ≠ 6) (q i k : Int) (s : ByteArray) (b : Nat) (hq : q < 0 ∨ 1 < q) :
    Calls Try.prog 7 #[.pointer (some ⟨t, 0, none⟩), .pointer (some ⟨r, 0, none⟩), .agg #[.int .i64 kd, .int .i64 q, .int .i64 i, .int .i64 k, .string s, .int .u8 (b : Int)]] w fun e w' => e = .returned (.bool true) ∧ ∃ x' y', Tr B t r 27 x' y' (clrN N q) (clrN N q) w' ∧ Below B w w' := by
  have k0 : (kd == 0) = false := by simpa using h0
  have k1 : (kd == 1) = false := by simpa using h1
  have k2 : (kd == 2) = false := by simpa using h2
  have k3 : (kd == 3) = false := by simpa using h3
  have k4 : (kd == 4) = false := by simpa using h4
  have k5 : (kd == 5) = false := by simpa using h5
  have k6 : (kd == 6) = false := by simpa using h6
  have ep : pty q = 1 := by rw [pty, if_pos hq]
  have eN : clrN N q = N := by rw [clrN, ep, if_neg (by decide)]
  rw [eN]
  clear eN h0 h1 h2 h3 h4 h5 h6
  by_cases hq0 : q < 0
  · have T0 := hide1 h
    have SS := hide1 hs
    obtain ⟨a0, c0, hy0⟩ := (h.own 0 (by omega)).form
    obtain ⟨a1, c1, hy1⟩ := (h.own 1 (by omega)).form
    obtain ⟨n0, hn0⟩ : ∃ n0, (N 0).length = n0 := ⟨_, rfl⟩
    obtain ⟨n1, hn1⟩ : ∃ n1, (N 1).length = n1 := ⟨_, rfl⟩
    rw [hn0] at hy0
    rw [hn1] at hy1
    have HY0 := hide1 hy0
    have HY1 := hide1 hy1
    have hrow := h.row
    rw [hy0, hy1] at hrow
    have HRW := hide1 hrow
    have hA : Below w.heap.size w (w.alloc (.cells #[.int .i64 kd, .int .i64 q, .int .i64 i, .int .i64 k, .string s, .int .u8 (b : Int)] 29)) := below1 _
    obtain ⟨d0, d1, _, _, _⟩ := box2 ((hA.block r (lt_heap hrow)).trans hrow)
    have LB : Hid (B ≤ w.heap.size ∧ t < w.heap.size ∧ r < w.heap.size) := ⟨by have := h.net.low; have := lt_heap h.net.row; omega, lt_heap h.net.row, lt_heap hrow⟩
    have L0 : ∀ W, Below w.heap.size w W → Lst 0 W (.slice a0 n0 c0) (N 0) := fun W hb => hy0 ▸ ((h.below hb).own 0 (by omega)).mono (Nat.zero_le _)
    have Zf0 := hide1 L0
    have L1 : ∀ W, Below w.heap.size w W → Lst 0 W (.slice a1 n1 c1) (N 1) := fun W hb => hy1 ▸ ((h.below hb).own 1 (by omega)).mono (Nat.zero_le _)
    have eN : clrN N q = N := by rw [clrN, ep, if_neg (by decide)]
    have Zf1 := hide1 L1
    have kC := hide1 (fun W (hb : Below w.heap.size w W) => clr_any (h.below hb).net q)
    rw [ep, eN] at kC
    clear ep eN h hs hy0 hy1 hn0 hn1 hrow hA L0 L1
    go_enter Try.func7, Try.ntmps7
    go_upto_region 8 with (fail)
    have h2 := two_new w (.cells #[.int .i64 kd, .int .i64 q, .int .i64 i, .int .i64 k, .string s, .int .u8 (b : Int)] 29) (.cells #[.slice a0 n0 c0, .slice a1 n1 c1] 27)
    have hB2 := below2 (w := w) (.cells #[.int .i64 kd, .int .i64 q, .int .i64 i, .int .i64 k, .string s, .int .u8 (b : Int)] 29) (.cells #[.slice a0 n0 c0, .slice a1 n1 c1] 27)
    clear d0 d1
    generalize (w.alloc _).alloc _ = W1 at h2 hB2 ⊢
    have B1 := hide1 hB2
    obtain ⟨ab, hab⟩ : ∃ ab, w.heap.size = ab := ⟨_, rfl⟩
    obtain ⟨nb, hnb⟩ : ∃ nb, w.heap.size + 1 = nb := ⟨_, rfl⟩
    have HS : Hid (w.heap.size = ab ∧ ab + 1 = nb) := ⟨hab, by omega⟩
    rw [hnb, hab] at h2
    rw [hnb, hab]
    have RA := hide1 h2.1
    have RN := hide1 h2.2
    clear hab hnb h2 hB2
    have RR := hide1 ((B1.out.block r (lt_heap HRW.out)).trans HRW.out)
    have Z0 := hide1 (Zf0.out W1 B1.out)
    have Z1 := hide1 (Zf1.out W1 B1.out)
    have FR : Hid (∀ g, (Value.slice a0 n0 c0).ownBlock = some g ∨ (Value.slice a1 n1 c1).ownBlock = some g → (y 0).ownBlock = some g ∨ (y 1).ownBlock = some g ∨ w.heap.size ≤ g) := fun g hg => by
      rw [HY0.out, HY1.out]
      rcases hg with e | e
      · exact .inl e
      · exact .inr (.inl e)
    obtain ⟨q0, q1, q2, q3, q4, q5⟩ := (box_act RA.out).1
    rw [Nat.zero_add] at q1 q2 q3 q4 q5
    go_wp2_with fail
    refine (kC.out W1 B1.out).mono ?_
    rintro e W4 ⟨rfl, x', hn, hv⟩
    have ST := T0.out.stepped B1.out Z0.out Z1.out FR.out hn hv
    obtain ⟨t4, z4, k4⟩ := ST
    have RN4 := hide1 ((k4 nb (by have := HS.out; omega) (lt_heap RN.out)).trans RN.out)
    have T4 := hide1 t4
    have Z4 := hide1 z4
    have RR4 := hide1 t4.row
    rw [HY0.out, HY1.out] at RR4
    have B4 : Hid (Below B w W4) := (B1.out.mono LB.out.1).trans (hv.below (T0.out.below B1.out).net)
    clear hn hv t4 z4 k4 q0 q1 q2 q3 q4 q5
    have hw5 : Below B w ((W4.setCell ⟨r, 0, none⟩ (.slice a0 n0 c0)).setCell ⟨r, 1, none⟩ (.slice a1 n1 c1)) := below_set2 B4.out T4.out.low
    have FIN := hide1 (T4.out.last Z4.out)
    have HW5 := hide1 hw5
    obtain ⟨e0, e1, _, _, _⟩ := box2 RN4.out
    obtain ⟨r0, r1, rz0, rz1, _⟩ := box2 RR4.out
    clear hw5
    go_wp2
    go_ret
    obtain ⟨z, hz⟩ := FIN.out
    exact ⟨rfl, _, z, hz, HW5.out⟩
  · have hq1 : 1 < q := by omega
    have T0 := hide1 h
    have SS := hide1 hs
    obtain ⟨a0, c0, hy0⟩ := (h.own 0 (by omega)).form
    obtain ⟨a1, c1, hy1⟩ := (h.own 1 (by omega)).form
    obtain ⟨n0, hn0⟩ : ∃ n0, (N 0).length = n0 := ⟨_, rfl⟩
    obtain ⟨n1, hn1⟩ : ∃ n1, (N 1).length = n1 := ⟨_, rfl⟩
    rw [hn0] at hy0
    rw [hn1] at hy1
    have HY0 := hide1 hy0
    have HY1 := hide1 hy1
    have hrow := h.row
    rw [hy0, hy1] at hrow
    have HRW := hide1 hrow
    have hA : Below w.heap.size w (w.alloc (.cells #[.int .i64 kd, .int .i64 q, .int .i64 i, .int .i64 k, .string s, .int .u8 (b : Int)] 29)) := below1 _
    obtain ⟨d0, d1, _, _, _⟩ := box2 ((hA.block r (lt_heap hrow)).trans hrow)
    have LB : Hid (B ≤ w.heap.size ∧ t < w.heap.size ∧ r < w.heap.size) := ⟨by have := h.net.low; have := lt_heap h.net.row; omega, lt_heap h.net.row, lt_heap hrow⟩
    have L0 : ∀ W, Below w.heap.size w W → Lst 0 W (.slice a0 n0 c0) (N 0) := fun W hb => hy0 ▸ ((h.below hb).own 0 (by omega)).mono (Nat.zero_le _)
    have Zf0 := hide1 L0
    have L1 : ∀ W, Below w.heap.size w W → Lst 0 W (.slice a1 n1 c1) (N 1) := fun W hb => hy1 ▸ ((h.below hb).own 1 (by omega)).mono (Nat.zero_le _)
    have eN : clrN N q = N := by rw [clrN, ep, if_neg (by decide)]
    have Zf1 := hide1 L1
    have kC := hide1 (fun W (hb : Below w.heap.size w W) => clr_any (h.below hb).net q)
    rw [ep, eN] at kC
    clear ep eN h hs hy0 hy1 hn0 hn1 hrow hA L0 L1
    go_enter Try.func7, Try.ntmps7
    go_upto_region 8 with (fail)
    have h2 := two_new w (.cells #[.int .i64 kd, .int .i64 q, .int .i64 i, .int .i64 k, .string s, .int .u8 (b : Int)] 29) (.cells #[.slice a0 n0 c0, .slice a1 n1 c1] 27)
    have hB2 := below2 (w := w) (.cells #[.int .i64 kd, .int .i64 q, .int .i64 i, .int .i64 k, .string s, .int .u8 (b : Int)] 29) (.cells #[.slice a0 n0 c0, .slice a1 n1 c1] 27)
    clear d0 d1
    generalize (w.alloc _).alloc _ = W1 at h2 hB2 ⊢
    have B1 := hide1 hB2
    obtain ⟨ab, hab⟩ : ∃ ab, w.heap.size = ab := ⟨_, rfl⟩
    obtain ⟨nb, hnb⟩ : ∃ nb, w.heap.size + 1 = nb := ⟨_, rfl⟩
    have HS : Hid (w.heap.size = ab ∧ ab + 1 = nb) := ⟨hab, by omega⟩
    rw [hnb, hab] at h2
    rw [hnb, hab]
    have RA := hide1 h2.1
    have RN := hide1 h2.2
    clear hab hnb h2 hB2
    have RR := hide1 ((B1.out.block r (lt_heap HRW.out)).trans HRW.out)
    have Z0 := hide1 (Zf0.out W1 B1.out)
    have Z1 := hide1 (Zf1.out W1 B1.out)
    have FR : Hid (∀ g, (Value.slice a0 n0 c0).ownBlock = some g ∨ (Value.slice a1 n1 c1).ownBlock = some g → (y 0).ownBlock = some g ∨ (y 1).ownBlock = some g ∨ w.heap.size ≤ g) := fun g hg => by
      rw [HY0.out, HY1.out]
      rcases hg with e | e
      · exact .inl e
      · exact .inr (.inl e)
    obtain ⟨q0, q1, q2, q3, q4, q5⟩ := (box_act RA.out).1
    rw [Nat.zero_add] at q1 q2 q3 q4 q5
    go_wp2_with fail
    refine (kC.out W1 B1.out).mono ?_
    rintro e W4 ⟨rfl, x', hn, hv⟩
    have ST := T0.out.stepped B1.out Z0.out Z1.out FR.out hn hv
    obtain ⟨t4, z4, k4⟩ := ST
    have RN4 := hide1 ((k4 nb (by have := HS.out; omega) (lt_heap RN.out)).trans RN.out)
    have T4 := hide1 t4
    have Z4 := hide1 z4
    have RR4 := hide1 t4.row
    rw [HY0.out, HY1.out] at RR4
    have B4 : Hid (Below B w W4) := (B1.out.mono LB.out.1).trans (hv.below (T0.out.below B1.out).net)
    clear hn hv t4 z4 k4 q0 q1 q2 q3 q4 q5
    have hw5 : Below B w ((W4.setCell ⟨r, 0, none⟩ (.slice a0 n0 c0)).setCell ⟨r, 1, none⟩ (.slice a1 n1 c1)) := below_set2 B4.out T4.out.low
    have FIN := hide1 (T4.out.last Z4.out)
    have HW5 := hide1 hw5
    obtain ⟨e0, e1, _, _, _⟩ := box2 RN4.out
    obtain ⟨r0, r1, rz0, rz1, _⟩ := box2 RR4.out
    clear hw5
    go_wp2
    go_ret
    obtain ⟨z, hz⟩ := FIN.out
    exact ⟨rfl, _, z, hz, HW5.out⟩

set_option maxHeartbeats 4000000 in
theorem does_clear0 {B t r : Nat} {x y : Nat → Value} {N : Nat → List ByteArray} {w : World} (h : Tr B t r 27 x y N N w) (hs : Sm N) (kd : Int) (h0 : kd ≠ 0) (h1 : kd ≠ 1) (h2 : kd ≠ 2) (h3 : kd ≠ 3) (h4 : kd ≠ 4) (h5 : kd ≠ 5) (h6 : kd ≠ 6) (i k : Int) (s : ByteArray) (b : Nat)  :
    Calls Try.prog 7 #[.pointer (some ⟨t, 0, none⟩), .pointer (some ⟨r, 0, none⟩), .agg #[.int .i64 kd, .int .i64 0, .int .i64 i, .int .i64 k, .string s, .int .u8 (b : Int)]] w fun e w' => e = .returned (.bool true) ∧ ∃ x' y', Tr B t r 27 x' y' (clrN N 0) (clrN N 0) w' ∧ Below B w w' := by
  have k0 : (kd == 0) = false := by simpa using h0
  have k1 : (kd == 1) = false := by simpa using h1
  have k2 : (kd == 2) = false := by simpa using h2
  have k3 : (kd == 3) = false := by simpa using h3
  have k4 : (kd == 4) = false := by simpa using h4
  have k5 : (kd == 5) = false := by simpa using h5
  have k6 : (kd == 6) = false := by simpa using h6
  have T0 := hide1 h
  have SS := hide1 hs
  obtain ⟨a0, c0, hy0⟩ := (h.own 0 (by omega)).form
  obtain ⟨a1, c1, hy1⟩ := (h.own 1 (by omega)).form
  obtain ⟨n0, hn0⟩ : ∃ n0, (N 0).length = n0 := ⟨_, rfl⟩
  obtain ⟨n1, hn1⟩ : ∃ n1, (N 1).length = n1 := ⟨_, rfl⟩
  rw [hn0] at hy0
  rw [hn1] at hy1
  have HY0 := hide1 hy0
  have HY1 := hide1 hy1
  have hrow := h.row
  rw [hy0, hy1] at hrow
  have HRW := hide1 hrow
  have hA : Below w.heap.size w (w.alloc (.cells #[.int .i64 kd, .int .i64 0, .int .i64 i, .int .i64 k, .string s, .int .u8 (b : Int)] 29)) := below1 _
  obtain ⟨d0, d1, _, _, _⟩ := box2 ((hA.block r (lt_heap hrow)).trans hrow)
  have LB : Hid (B ≤ w.heap.size ∧ t < w.heap.size ∧ r < w.heap.size) := ⟨by have := h.net.low; have := lt_heap h.net.row; omega, lt_heap h.net.row, lt_heap hrow⟩
  have L0 : ∀ W, Below w.heap.size w W → Lst 0 W (.slice a0 n0 c0) (N 0) := fun W hb => hy0 ▸ ((h.below hb).own 0 (by omega)).mono (Nat.zero_le _)
  have L1 : ∀ W, Below w.heap.size w W → Lst 0 W (.slice a1 n1 c1) (N 1) := fun W hb => hy1 ▸ ((h.below hb).own 1 (by omega)).mono (Nat.zero_le _)
  have kR := fun W => hide1 (with_any0 a0 a1 none n0 c0 n1 c1 0 0 W)
  have eN : clrN N 0 = upd N 0 [] := rfl
  have kC := hide1 (fun W (hb : Below w.heap.size w W) => clear_any (h.below hb).net 0 (by omega))
  have Zf0 := hide1 L0
  have Zf1 := hide1 L1
  rw [eN]
  clear h0 h1 h2 h3 h4 h5 h6
  clear eN h hs hy0 hy1 hn0 hn1 hrow hA L0 L1
  go_enter Try.func7, Try.ntmps7
  go_upto_region 7 with (fail)
  have h2 := two_new w (.cells #[.int .i64 kd, .int .i64 0, .int .i64 i, .int .i64 k, .string s, .int .u8 (b : Int)] 29) (.cells #[.slice a0 n0 c0, .slice a1 n1 c1] 27)
  have hB2 := below2 (w := w) (.cells #[.int .i64 kd, .int .i64 0, .int .i64 i, .int .i64 k, .string s, .int .u8 (b : Int)] 29) (.cells #[.slice a0 n0 c0, .slice a1 n1 c1] 27)
  clear d0 d1
  generalize (w.alloc _).alloc _ = W1 at h2 hB2 ⊢
  have B1 := hide1 hB2
  obtain ⟨ab, hab⟩ : ∃ ab, w.heap.size = ab := ⟨_, rfl⟩
  obtain ⟨nb, hnb⟩ : ∃ nb, w.heap.size + 1 = nb := ⟨_, rfl⟩
  have HS : Hid (w.heap.size = ab ∧ ab + 1 = nb) := ⟨hab, by omega⟩
  rw [hnb, hab] at h2
  rw [hnb, hab]
  have RA := hide1 h2.1
  have RN := hide1 h2.2
  clear hab hnb h2 hB2
  have RR := hide1 ((B1.out.block r (lt_heap HRW.out)).trans HRW.out)
  have CA1 : Hid (W1.cell? ⟨ab, 1, none⟩ = some (.int .i64 0)) := by
    show W1.cell? ⟨ab, 1, none⟩ = _
    rw [cell_of_row W1 ab 1 _ _ _ RA.out]
    rfl
  refine region_f (F := [5, 6]) (S := fun W => W.cell? ⟨r, 0, none⟩ = some (.slice a0 n0 c0) ∧ W.cell? ⟨r, 1, none⟩ = some (.slice a1 n1 c1) ∧ r < W.heap.size ∧ ab < W.heap.size ∧ W.cell? ⟨ab, 1, none⟩ = some (.int .i64 0)) (by kernel_rfl) ⟨(box2 RR.out).1, (box2 RR.out).2.1, (box2 RR.out).2.2.2.2, lt_heap RA.out, CA1.out⟩ (fun hS => ?_)
  generalize hU : World.drew W1 = U at hS ⊢
  have RA : Hid (U.heap[ab]? = some (.cells #[.int .i64 kd, .int .i64 0, .int .i64 i, .int .i64 k, .string s, .int .u8 (b : Int)] 29 (0, 0))) := by rw [← hU]; exact RA.out
  have RN : Hid (U.heap[nb]? = some (.cells #[.slice a0 n0 c0, .slice a1 n1 c1] 27 (0, 0))) := by rw [← hU]; exact RN.out
  have B1 : Hid (Below w.heap.size w U) := by rw [← hU]; exact B1.out.drew
  clear hU RR
  refine take_p 0 29 (.pointer (some ⟨r, 0, none⟩)) rfl rfl (by kernel_rfl) (by kernel_rfl) (by kernel_rfl) (fun _ _ _ h => h) rfl (fun w => by go_simp) ?_
  try simp only [List.setIfInBounds_toArray, List.set_cons_zero, List.set_cons_succ]
  refine take_p 1 30 (.pointer (some ⟨r, 0, none⟩)) rfl rfl (by kernel_rfl) (by kernel_rfl) (by kernel_rfl) (fun _ _ _ h => h) rfl (fun w => by go_simp) ?_
  try simp only [List.setIfInBounds_toArray, List.set_cons_zero, List.set_cons_succ]
  refine take_f 2 31 (.agg #[.slice a0 n0 c0, .slice a1 n1 c1]) [5, 6] rfl rfl (by kernel_rfl) (by kernel_rfl) (by kernel_rfl) (by kernel_rfl) (by kernel_rfl) (by kernel_rfl) (fun _ _ _ h => h) rfl (fun w hSw => by obtain ⟨g0, g1, g2, g3, g4⟩ := hSw; go_simp) hS ?_
  try simp only [List.setIfInBounds_toArray, List.set_cons_zero, List.set_cons_succ]
  refine take_p 3 32 (.pointer (some ⟨ab, 1, none⟩)) rfl rfl (by kernel_rfl) (by kernel_rfl) (by kernel_rfl) (fun _ _ _ h => h) rfl (fun w => by go_simp) ?_
  try simp only [List.setIfInBounds_toArray, List.set_cons_zero, List.set_cons_succ]
  refine take_f 4 33 (.int .i64 0) [5, 6] rfl rfl (by kernel_rfl) (by kernel_rfl) (by kernel_rfl) (by kernel_rfl) (by kernel_rfl) (by kernel_rfl) (fun _ _ _ h => h) rfl (fun w hSw => by obtain ⟨g0, g1, g2, g3, g4⟩ := hSw; go_simp) hS ?_
  try simp only [List.setIfInBounds_toArray, List.set_cons_zero, List.set_cons_succ]
  refine ready_f 5 (o := { dst := some 34, op := Op.call { callee := Callee.value (Operand.func 27), args := #[Operand.tmp 31, Operand.tmp 33, Operand.const (Value.slice none 0 0)], argTypes := #[31, 3, 25] }, type := 27, pos := "law.go:62", after := #[{ on := 2, ground := Ground.data }, { on := 4, ground := Ground.data }], guard := none }) (by kernel_rfl) rfl (fun K hK => ?_)
  go_simp
  refine (kR _).out.mono ?_
  rintro e U2 ⟨rfl, hb2⟩
  refine hK.out _ _ (fun h => absurd (by decide) h) ?_
  clear hK K
  try simp only [Act.put, List.setIfInBounds_toArray, List.set_cons_zero, List.set_cons_succ]
  have RA := hide1 ((hb2.block ab (lt_heap RA.out)).trans RA.out)
  have RN := hide1 ((hb2.block nb (lt_heap RN.out)).trans RN.out)
  have B1 : Hid (Below w.heap.size w U2) := B1.out.trans (hb2.mono B1.out.size)
  clear hb2 hS
  refine ready_f 6 (o := { dst := none, op := Op.store 27 (Operand.tmp 7) (Operand.tmp 34), type := 0, pos := "law.go:62", after := #[{ on := 5, ground := Ground.data }, { on := 5, ground := Ground.chain }, { on := 0, ground := Ground.phase }, { on := 1, ground := Ground.phase }, { on := 2, ground := Ground.phase }, { on := 3, ground := Ground.phase }, { on := 4, ground := Ground.phase }, { on := 5, ground := Ground.phase }], guard := none }) (by kernel_rfl) rfl (fun K hK => ?_)
  rw [if_pos (by rfl)]
  refine wp_store_row 27 _ _ rfl nb _ rfl rfl 27 _ RN.out (by kernel_rfl) rfl (by kernel_rfl) ?_
  refine hK.out _ _ (fun h => absurd (by decide) h) ?_
  clear hK K
  refine done_f (by kernel_rfl) ?_ _
  have RA := hide1 ((setRow_other U2 nb ab #[.slice none 0 0, .slice a1 n1 c1] (by have := HS.out; omega)).trans RA.out)
  have B1 : Hid (Below w.heap.size w (U2.setRow nb #[.slice none 0 0, .slice a1 n1 c1])) := below_setRow B1.out (by have := HS.out; omega) _
  have RN := hide1 (setRow_heap U2 nb _ #[.slice none 0 0, .slice a1 n1 c1] _ _ RN.out)
  generalize U2.setRow nb _ = W3 at RA B1 RN ⊢
  have Z0 : Hid (Lst 0 W3 (.slice none 0 0) (upd N 0 [] 0)) := Lst.nil _ _
  have Z1 : Hid (Lst 0 W3 (.slice a1 n1 c1) (upd N 0 [] 1)) := Zf1.out W3 B1.out
  have FR : Hid (∀ g, (Value.slice none 0 0).ownBlock = some g ∨ (Value.slice a1 n1 c1).ownBlock = some g → (y 0).ownBlock = some g ∨ (y 1).ownBlock = some g ∨ w.heap.size ≤ g) := fun g hg => by
    rw [HY0.out, HY1.out]
    rcases hg with e | e
    · cases e
    · exact .inr (.inl e)
  obtain ⟨q0, q1, q2, q3, q4, q5⟩ := (box_act RA.out).1
  rw [Nat.zero_add] at q1 q2 q3 q4 q5
  go_wp2_with fail
  refine (kC.out W3 B1.out).mono ?_
  rintro e W4 ⟨rfl, x', hn, hv⟩
  have ST := T0.out.stepped B1.out Z0.out Z1.out FR.out hn hv
  obtain ⟨t4, z4, k4⟩ := ST
  have RN4 := hide1 ((k4 nb (by have := HS.out; omega) (lt_heap RN.out)).trans RN.out)
  have T4 := hide1 t4
  have Z4 := hide1 z4
  have RR4 := hide1 t4.row
  rw [HY0.out, HY1.out] at RR4
  have B4 : Hid (Below B w W4) := (B1.out.mono LB.out.1).trans (hv.below (T0.out.below B1.out).net)
  clear hn hv t4 z4 k4 q0 q1 q2 q3 q4 q5
  have hw5 : Below B w ((W4.setCell ⟨r, 0, none⟩ (.slice none 0 0)).setCell ⟨r, 1, none⟩ (.slice a1 n1 c1)) := below_set2 B4.out T4.out.low
  have FIN := hide1 (T4.out.last Z4.out)
  have HW5 := hide1 hw5
  obtain ⟨e0, e1, _, _, _⟩ := box2 RN4.out
  obtain ⟨r0, r1, rz0, rz1, _⟩ := box2 RR4.out
  clear hw5
  go_wp2
  go_ret
  obtain ⟨z, hz⟩ := FIN.out
  exact ⟨rfl, _, z, hz, HW5.out⟩

set_option maxHeartbeats 4000000 in
theorem does_clear1 {B t r : Nat} {x y : Nat → Value} {N : Nat → List ByteArray} {w : World} (h : Tr B t r 27 x y N N w) (hs : Sm N) (kd : Int) (h0 : kd ≠ 0) (h1 : kd ≠ 1) (h2 : kd ≠ 2) (h3 : kd ≠ 3) (h4 : kd ≠ 4) (h5 : kd ≠ 5) (h6 : kd ≠ 6) (i k : Int) (s : ByteArray) (b : Nat)  :
    Calls Try.prog 7 #[.pointer (some ⟨t, 0, none⟩), .pointer (some ⟨r, 0, none⟩), .agg #[.int .i64 kd, .int .i64 1, .int .i64 i, .int .i64 k, .string s, .int .u8 (b : Int)]] w fun e w' => e = .returned (.bool true) ∧ ∃ x' y', Tr B t r 27 x' y' (clrN N 1) (clrN N 1) w' ∧ Below B w w' := by
  have k0 : (kd == 0) = false := by simpa using h0
  have k1 : (kd == 1) = false := by simpa using h1
  have k2 : (kd == 2) = false := by simpa using h2
  have k3 : (kd == 3) = false := by simpa using h3
  have k4 : (kd == 4) = false := by simpa using h4
  have k5 : (kd == 5) = false := by simpa using h5
  have k6 : (kd == 6) = false := by simpa using h6
  have T0 := hide1 h
  have SS := hide1 hs
  obtain ⟨a0, c0, hy0⟩ := (h.own 0 (by omega)).form
  obtain ⟨a1, c1, hy1⟩ := (h.own 1 (by omega)).form
  obtain ⟨n0, hn0⟩ : ∃ n0, (N 0).length = n0 := ⟨_, rfl⟩
  obtain ⟨n1, hn1⟩ : ∃ n1, (N 1).length = n1 := ⟨_, rfl⟩
  rw [hn0] at hy0
  rw [hn1] at hy1
  have HY0 := hide1 hy0
  have HY1 := hide1 hy1
  have hrow := h.row
  rw [hy0, hy1] at hrow
  have HRW := hide1 hrow
  have hA : Below w.heap.size w (w.alloc (.cells #[.int .i64 kd, .int .i64 1, .int .i64 i, .int .i64 k, .string s, .int .u8 (b : Int)] 29)) := below1 _
  obtain ⟨d0, d1, _, _, _⟩ := box2 ((hA.block r (lt_heap hrow)).trans hrow)
  have LB : Hid (B ≤ w.heap.size ∧ t < w.heap.size ∧ r < w.heap.size) := ⟨by have := h.net.low; have := lt_heap h.net.row; omega, lt_heap h.net.row, lt_heap hrow⟩
  have L0 : ∀ W, Below w.heap.size w W → Lst 0 W (.slice a0 n0 c0) (N 0) := fun W hb => hy0 ▸ ((h.below hb).own 0 (by omega)).mono (Nat.zero_le _)
  have L1 : ∀ W, Below w.heap.size w W → Lst 0 W (.slice a1 n1 c1) (N 1) := fun W hb => hy1 ▸ ((h.below hb).own 1 (by omega)).mono (Nat.zero_le _)
  have kR := fun W => hide1 (with_any1 a0 a1 none n0 c0 n1 c1 0 0 W)
  have eN : clrN N 1 = upd N 1 [] := rfl
  have kC := hide1 (fun W (hb : Below w.heap.size w W) => clear_any (h.below hb).net 1 (by omega))
  have Zf0 := hide1 L0
  have Zf1 := hide1 L1
  rw [eN]
  clear h0 h1 h2 h3 h4 h5 h6
  clear eN h hs hy0 hy1 hn0 hn1 hrow hA L0 L1
  go_enter Try.func7, Try.ntmps7
  go_upto_region 7 with (fail)
  have h2 := two_new w (.cells #[.int .i64 kd, .int .i64 1, .int .i64 i, .int .i64 k, .string s, .int .u8 (b : Int)] 29) (.cells #[.slice a0 n0 c0, .slice a1 n1 c1] 27)
  have hB2 := below2 (w := w) (.cells #[.int .i64 kd, .int .i64 1, .int .i64 i, .int .i64 k, .string s, .int .u8 (b : Int)] 29) (.cells #[.slice a0 n0 c0, .slice a1 n1 c1] 27)
  clear d0 d1
  generalize (w.alloc _).alloc _ = W1 at h2 hB2 ⊢
  have B1 := hide1 hB2
  obtain ⟨ab, hab⟩ : ∃ ab, w.heap.size = ab := ⟨_, rfl⟩
  obtain ⟨nb, hnb⟩ : ∃ nb, w.heap.size + 1 = nb := ⟨_, rfl⟩
  have HS : Hid (w.heap.size = ab ∧ ab + 1 = nb) := ⟨hab, by omega⟩
  rw [hnb, hab] at h2
  rw [hnb, hab]
  have RA := hide1 h2.1
  have RN := hide1 h2.2
  clear hab hnb h2 hB2
  have RR := hide1 ((B1.out.block r (lt_heap HRW.out)).trans HRW.out)
  have CA1 : Hid (W1.cell? ⟨ab, 1, none⟩ = some (.int .i64 1)) := by
    show W1.cell? ⟨ab, 1, none⟩ = _
    rw [cell_of_row W1 ab 1 _ _ _ RA.out]
    rfl
  refine region_f (F := [5, 6]) (S := fun W => W.cell? ⟨r, 0, none⟩ = some (.slice a0 n0 c0) ∧ W.cell? ⟨r, 1, none⟩ = some (.slice a1 n1 c1) ∧ r < W.heap.size ∧ ab < W.heap.size ∧ W.cell? ⟨ab, 1, none⟩ = some (.int .i64 1)) (by kernel_rfl) ⟨(box2 RR.out).1, (box2 RR.out).2.1, (box2 RR.out).2.2.2.2, lt_heap RA.out, CA1.out⟩ (fun hS => ?_)
  generalize hU : World.drew W1 = U at hS ⊢
  have RA : Hid (U.heap[ab]? = some (.cells #[.int .i64 kd, .int .i64 1, .int .i64 i, .int .i64 k, .string s, .int .u8 (b : Int)] 29 (0, 0))) := by rw [← hU]; exact RA.out
  have RN : Hid (U.heap[nb]? = some (.cells #[.slice a0 n0 c0, .slice a1 n1 c1] 27 (0, 0))) := by rw [← hU]; exact RN.out
  have B1 : Hid (Below w.heap.size w U) := by rw [← hU]; exact B1.out.drew
  clear hU RR
  refine take_p 0 29 (.pointer (some ⟨r, 0, none⟩)) rfl rfl (by kernel_rfl) (by kernel_rfl) (by kernel_rfl) (fun _ _ _ h => h) rfl (fun w => by go_simp) ?_
  try simp only [List.setIfInBounds_toArray, List.set_cons_zero, List.set_cons_succ]
  refine take_p 1 30 (.pointer (some ⟨r, 0, none⟩)) rfl rfl (by kernel_rfl) (by kernel_rfl) (by kernel_rfl) (fun _ _ _ h => h) rfl (fun w => by go_simp) ?_
  try simp only [List.setIfInBounds_toArray, List.set_cons_zero, List.set_cons_succ]
  refine take_f 2 31 (.agg #[.slice a0 n0 c0, .slice a1 n1 c1]) [5, 6] rfl rfl (by kernel_rfl) (by kernel_rfl) (by kernel_rfl) (by kernel_rfl) (by kernel_rfl) (by kernel_rfl) (fun _ _ _ h => h) rfl (fun w hSw => by obtain ⟨g0, g1, g2, g3, g4⟩ := hSw; go_simp) hS ?_
  try simp only [List.setIfInBounds_toArray, List.set_cons_zero, List.set_cons_succ]
  refine take_p 3 32 (.pointer (some ⟨ab, 1, none⟩)) rfl rfl (by kernel_rfl) (by kernel_rfl) (by kernel_rfl) (fun _ _ _ h => h) rfl (fun w => by go_simp) ?_
  try simp only [List.setIfInBounds_toArray, List.set_cons_zero, List.set_cons_succ]
  refine take_f 4 33 (.int .i64 1) [5, 6] rfl rfl (by kernel_rfl) (by kernel_rfl) (by kernel_rfl) (by kernel_rfl) (by kernel_rfl) (by kernel_rfl) (fun _ _ _ h => h) rfl (fun w hSw => by obtain ⟨g0, g1, g2, g3, g4⟩ := hSw; go_simp) hS ?_
  try simp only [List.setIfInBounds_toArray, List.set_cons_zero, List.set_cons_succ]
  refine ready_f 5 (o := { dst := some 34, op := Op.call { callee := Callee.value (Operand.func 27), args := #[Operand.tmp 31, Operand.tmp 33, Operand.const (Value.slice none 0 0)], argTypes := #[31, 3, 25] }, type := 27, pos := "law.go:62", after := #[{ on := 2, ground := Ground.data }, { on := 4, ground := Ground.data }], guard := none }) (by kernel_rfl) rfl (fun K hK => ?_)
  go_simp
  refine (kR _).out.mono ?_
  rintro e U2 ⟨rfl, hb2⟩
  refine hK.out _ _ (fun h => absurd (by decide) h) ?_
  clear hK K
  try simp only [Act.put, List.setIfInBounds_toArray, List.set_cons_zero, List.set_cons_succ]
  have RA := hide1 ((hb2.block ab (lt_heap RA.out)).trans RA.out)
  have RN := hide1 ((hb2.block nb (lt_heap RN.out)).trans RN.out)
  have B1 : Hid (Below w.heap.size w U2) := B1.out.trans (hb2.mono B1.out.size)
  clear hb2 hS
  refine ready_f 6 (o := { dst := none, op := Op.store 27 (Operand.tmp 7) (Operand.tmp 34), type := 0, pos := "law.go:62", after := #[{ on := 5, ground := Ground.data }, { on := 5, ground := Ground.chain }, { on := 0, ground := Ground.phase }, { on := 1, ground := Ground.phase }, { on := 2, ground := Ground.phase }, { on := 3, ground := Ground.phase }, { on := 4, ground := Ground.phase }, { on := 5, ground := Ground.phase }], guard := none }) (by kernel_rfl) rfl (fun K hK => ?_)
  rw [if_pos (by rfl)]
  refine wp_store_row 27 _ _ rfl nb _ rfl rfl 27 _ RN.out (by kernel_rfl) rfl (by kernel_rfl) ?_
  refine hK.out _ _ (fun h => absurd (by decide) h) ?_
  clear hK K
  refine done_f (by kernel_rfl) ?_ _
  have RA := hide1 ((setRow_other U2 nb ab #[.slice a0 n0 c0, .slice none 0 0] (by have := HS.out; omega)).trans RA.out)
  have B1 : Hid (Below w.heap.size w (U2.setRow nb #[.slice a0 n0 c0, .slice none 0 0])) := below_setRow B1.out (by have := HS.out; omega) _
  have RN := hide1 (setRow_heap U2 nb _ #[.slice a0 n0 c0, .slice none 0 0] _ _ RN.out)
  generalize U2.setRow nb _ = W3 at RA B1 RN ⊢
  have Z0 : Hid (Lst 0 W3 (.slice a0 n0 c0) (upd N 1 [] 0)) := Zf0.out W3 B1.out
  have Z1 : Hid (Lst 0 W3 (.slice none 0 0) (upd N 1 [] 1)) := Lst.nil _ _
  have FR : Hid (∀ g, (Value.slice a0 n0 c0).ownBlock = some g ∨ (Value.slice none 0 0).ownBlock = some g → (y 0).ownBlock = some g ∨ (y 1).ownBlock = some g ∨ w.heap.size ≤ g) := fun g hg => by
    rw [HY0.out, HY1.out]
    rcases hg with e | e
    · exact .inl e
    · cases e
  obtain ⟨q0, q1, q2, q3, q4, q5⟩ := (box_act RA.out).1
  rw [Nat.zero_add] at q1 q2 q3 q4 q5
  go_wp2_with fail
  refine (kC.out W3 B1.out).mono ?_
  rintro e W4 ⟨rfl, x', hn, hv⟩
  have ST := T0.out.stepped B1.out Z0.out Z1.out FR.out hn hv
  obtain ⟨t4, z4, k4⟩ := ST
  have RN4 := hide1 ((k4 nb (by have := HS.out; omega) (lt_heap RN.out)).trans RN.out)
  have T4 := hide1 t4
  have Z4 := hide1 z4
  have RR4 := hide1 t4.row
  rw [HY0.out, HY1.out] at RR4
  have B4 : Hid (Below B w W4) := (B1.out.mono LB.out.1).trans (hv.below (T0.out.below B1.out).net)
  clear hn hv t4 z4 k4 q0 q1 q2 q3 q4 q5
  have hw5 : Below B w ((W4.setCell ⟨r, 0, none⟩ (.slice a0 n0 c0)).setCell ⟨r, 1, none⟩ (.slice none 0 0)) := below_set2 B4.out T4.out.low
  have FIN := hide1 (T4.out.last Z4.out)
  have HW5 := hide1 hw5
  obtain ⟨e0, e1, _, _, _⟩ := box2 RN4.out
  obtain ⟨r0, r1, rz0, rz1, _⟩ := box2 RR4.out
  clear hw5
  go_wp2
  go_ret
  obtain ⟨z, hz⟩ := FIN.out
  exact ⟨rfl, _, z, hz, HW5.out⟩

end Go.Proofs.Ytfnedohampmnoaa
