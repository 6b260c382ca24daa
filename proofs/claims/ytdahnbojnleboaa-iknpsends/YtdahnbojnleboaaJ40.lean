/- Rows differ by the choice; the chapter's example. -/
import Derived.Test.YtdahnbojnleboaaJ39
namespace Go.Proofs.Ytdahnbojnleboaa.I
open Go.RowKit Pg
set_option maxRecDepth 100000
attribute [local go_sem] not_any T.mf_any

/- rows differ by the choice -/
theorem zip_get {l m : List Bool} {n j : Nat} (hl : l.length = n) (hm : m.length = n) (hj : j < n) : (List.zipWith (fun x y => x ^^ y) l m).getD j false = (l.getD j false ^^ m.getD j false) := by
  rw [List.getD_eq_getElem?_getD, List.getD_eq_getElem?_getD, List.getD_eq_getElem?_getD, List.getElem?_zipWith, List.getElem?_eq_getElem (by omega : j < l.length), List.getElem?_eq_getElem (by omega : j < m.length)]
  rfl
theorem zip_len {l m : List Bool} {n : Nat} (hl : l.length = n) (hm : m.length = n) : (List.zipWith (fun x y => x ^^ y) l m).length = n := by rw [List.length_zipWith, hl, hm, Nat.min_self]
theorem sentC_len (fz fo : Nat → List Nat) (F : Nat) {N : Nat} {ch : List Bool} (hc : ch.length = N) (i : Nat) : (sentC fz fo F N ch i).length = N :=
  zip_len (zip_len (cl_length _ _ _) (cl_length _ _ _)) hc
theorem sentC_get (fz fo : Nat → List Nat) (F : Nat) {N j : Nat} {ch : List Bool} (hc : ch.length = N) (i : Nat) (hj : j < N) :
    (sentC fz fo F N ch i).getD j false = (((cl (fz i) F N).getD j false ^^ (cl (fo i) F N).getD j false) ^^ ch.getD j false) :=
  (zip_get (zip_len (cl_length (fz i) F N) (cl_length (fo i) F N)) hc hj).trans (by rw [zip_get (cl_length (fz i) F N) (cl_length (fo i) F N) hj])
theorem keyC_get (fk : Nat → List Nat) (d0 d1 F : Nat) {N j : Nat} {L : Nat → List Bool} (i : Nat) (hL : (L i).length = N) (hj : j < N) :
    (keyC fk d0 d1 F N L i).getD j false = ((cl (fk i) F N).getD j false ^^ (bt d0 d1 (i : Int) && (L i).getD j false)) := by
  unfold keyC
  cases hb : bt d0 d1 (i : Int) with
  | false => rw [if_neg (by decide)]; simp
  | true =>
    rw [if_pos rfl, show xk (cl (fk i) F N) (fun _ => L i) 1 = List.zipWith (fun x y => x ^^ y) (cl (fk i) F N) (L i) from rfl, zip_get (cl_length (fk i) F N) hL hj]
    simp
theorem joins (fk fz fo : Nat → List Nat) (d0 d1 F : Nat) {N j : Nat} {ch : List Bool} (hk : ∀ i, fk i = if bt d0 d1 (i : Int) then fo i else fz i) (h0 : d0 < 18446744073709551616) (h1 : d1 < 18446744073709551616) (hc : ch.length = N) (hj : j < N) :
    rowOk d0 d1 (T.rowV (keyC fk d0 d1 F N (sentC fz fo F N ch))) (T.rowV (fun i => cl (fz i) F N)) ch j := by
  rw [rowOk_bits (T.rowV_lt _) (T.rowV_lt _) h0 h1]
  intro i hi
  have key : ∀ i, (keyC fk d0 d1 F N (sentC fz fo F N ch) i).getD j false = ((cl (fz i) F N).getD j false ^^ (bt d0 d1 (i : Int) && ch.getD j false)) := fun i => by
    rw [keyC_get fk d0 d1 F i (sentC_len fz fo F hc i) hj, sentC_get fz fo F hc i hj, hk i]
    cases hb : bt d0 d1 (i : Int) with
    | false => rw [if_neg (by decide)]; simp
    | true =>
      rw [if_pos rfl]
      cases (cl (fo i) F N).getD j false <;> cases (cl (fz i) F N).getD j false <;> cases ch.getD j false <;> rfl
  have part : ∀ p b : Nat, b < 64 → (T.rowV (keyC fk d0 d1 F N (sentC fz fo F N ch)) j p).testBit b = ((T.rowV (fun i => cl (fz i) F N) j p).testBit b != (ch.getD j false && bt d0 d1 ((p * 64 + b : Nat) : Int))) := fun p b hb => by
    rw [T.rowV_bit _ _ _ _ hb, T.rowV_bit _ _ _ _ hb, key]
    cases (cl (fz (p * 64 + b)) F N).getD j false <;> cases bt d0 d1 ((p * 64 + b : Nat) : Int) <;> cases ch.getD j false <;> rfl
  unfold bitOk
  by_cases h : i < 64
  · rw [bt_low _ _ h, bt_low _ _ h, part 0 i h, show 0 * 64 + i = i by omega]
  · obtain ⟨k, rfl⟩ : ∃ k, i = 64 + k := ⟨i - 64, by omega⟩
    rw [bt_high _ _ (by omega), bt_high _ _ (by omega), part 1 k (by omega), show 1 * 64 + k = 64 + k by omega]

/- what Deal tells -/
theorem good_dz (r : List Nat) (i : Nat) : (dz r i).length = 32 ∧ Lt 256 (dz r i) := ⟨dz_len r i, childP_lt _ _⟩
theorem good_dn (r : List Nat) (i : Nat) : (dn r i).length = 32 ∧ Lt 256 (dn r i) := ⟨dn_len r i, childP_lt _ _⟩
theorem good_dk (r : List Nat) (i : Nat) : (dk r i).length = 32 ∧ Lt 256 (dk r i) := by
  rw [dk]
  split
  · exact good_dn r i
  · exact good_dz r i
/- two Views laid into boxes -/
theorem views {w1 : World} {z c d : Array Value} {t : TypeId} :
    let Y := (((w1.alloc (.cells z t)).alloc (.cells z t)).setRow w1.heap.size c).setRow (w1.heap.size + 1) d
    Y.heap[w1.heap.size]? = some (.cells c t (0, 0)) ∧ Y.heap[w1.heap.size + 1]? = some (.cells d t (0, 0)) ∧ Below w1.heap.size w1 Y := by
  intro Y
  have h0 := heap_alloc2_old w1 (.cells z t) (.cells z t)
  have h1 := heap_alloc2_new w1 (.cells z t) (.cells z t)
  have hb : Below w1.heap.size w1 ((w1.alloc (.cells z t)).alloc (.cells z t)) := ((Below.refl _ _).alloc (Nat.le_refl _) _).alloc (by rw [size_alloc]; omega) _
  refine ⟨(setRow_other _ _ _ _ (by omega)).trans (setRow_heap _ _ _ _ _ _ h0), setRow_heap _ _ _ _ _ _ ((setRow_other _ _ _ _ (by omega)).trans h1), Below.setRow' (Below.setRow' hb (Nat.le_refl _) _) (by omega) _⟩
theorem view_send {w : World} {g : Nat} {x y k z o : Value} {t : TypeId} (h : w.heap[g]? = some (.cells #[x, y, k, z, o] t (0, 0))) : w.rangeAt g 0 [x, y, k] := fun j v hj => by
  rw [Nat.zero_add, cell_of_row w g _ _ _ _ h]
  match j, hj with
  | 0, hj => exact hj
  | 1, hj => exact hj
  | 2, hj => exact hj
theorem view_recv {w : World} {g : Nat} {x y k z o : Value} {t : TypeId} (h : w.heap[g]? = some (.cells #[x, y, k, z, o] t (0, 0))) : w.rangeAt g 3 [z, o] := fun j v hj => by
  rw [cell_of_row w g _ _ _ _ h]
  match j, hj with
  | 0, hj => exact hj
  | 1, hj => exact hj

theorem exec_eql_row {o : Oper} {tmps : Array Value} {ds : List Deferred} {w : World} {a b c d : Nat} {r : Bool} (x y : Operand) (t : TypeId) (ho : o.op = .binOp .eql 28 x y t) (hx : Act.eval ⟨tmps, ds⟩ x = .agg #[.int .u64 (a : Int), .int .u64 (b : Int)]) (hy : Act.eval ⟨tmps, ds⟩ y = .agg #[.int .u64 (c : Int), .int .u64 (d : Int)]) (hr : decide (a = c ∧ b = d) = r) :
    (execOp (Act.eval ⟨tmps, ds⟩) o).run Try.prog w = .ok (.value (.bool r)) w := by
  have hg := guardR
  have h2 := eq_rows a b c d w
  rw [hr] at h2
  unfold execOp
  simp only [ho, hx, hy]
  go_simp

set_option maxHeartbeats 8000000 in
theorem awake_any (w : World) : Calls Try.prog 7 #[] w fun e w' => e = .returned (.bool true) ∧ Below w.heap.size w w' := by
  have kD := fun w => hide1 (deal_any (3 :: zeros 31) 0 w rfl (fun x hx => by simp [zeros] at hx; omega) (by omega))
  have hlit : arr8 (3 :: zeros 31) = .agg #[.int .u8 3, .int .u8 0, .int .u8 0, .int .u8 0, .int .u8 0, .int .u8 0, .int .u8 0, .int .u8 0, .int .u8 0, .int .u8 0, .int .u8 0, .int .u8 0, .int .u8 0, .int .u8 0, .int .u8 0, .int .u8 0, .int .u8 0, .int .u8 0, .int .u8 0, .int .u8 0, .int .u8 0, .int .u8 0, .int .u8 0, .int .u8 0, .int .u8 0, .int .u8 0, .int .u8 0, .int .u8 0, .int .u8 0, .int .u8 0, .int .u8 0, .int .u8 0] := rfl
  simp only [hlit] at kD
  generalize rt0 (3 :: zeros 31) 0 = r0 at kD
  generalize rt1 (3 :: zeros 31) 0 = r1 at kD
  have kOf := fun w a h => hide1 (T.of_any w 2 2 a [false, true] h (by omega))
  clear hlit
  go_enter Try.func7, Try.ntmps7
  go_wp2_with fail
  go_at_call 8
  refine (kD _).out.mono ?_
  rintro e w1 ⟨K0, Z0, O0, K1, Z1, O1, rfl, sK0, sZ0, sO0, sK1, sZ1, sO1, hb1⟩
  obtain ⟨gK0, cK0, rfl, _, _⟩ := sK0.at'
  obtain ⟨gZ0, cZ0, rfl, _, _⟩ := sZ0.at'
  obtain ⟨gO0, cO0, rfl, _, _⟩ := sO0.at'
  obtain ⟨gK1, cK1, rfl, _, _⟩ := sK1.at'
  obtain ⟨gZ1, cZ1, rfl, _, _⟩ := sZ1.at'
  obtain ⟨gO1, cO1, rfl, _, _⟩ := sO1.at'
  have SS := hide1 (And.intro sK0 (And.intro sZ0 sO0))
  have B1 := hide1 hb1
  have hn0 : wd r0 9 0 < 18446744073709551616 := wd_lt _ _ _
  have hn1 : wd r0 9 1 < 18446744073709551616 := wd_lt _ _ _
  have hdk : Shy (∀ i, dk r0 i = if bt (wd r0 9 0) (wd r0 9 1) (i : Int) then dn r0 i else dz r0 i) := ⟨fun _ => rfl⟩
  generalize wd r0 9 0 = d0 at *
  generalize wd r0 9 1 = d1 at *
  generalize wd r1 9 0 = y0 at *
  generalize wd r1 9 1 = y1 at *
  clear sK0 sZ0 sO0 sK1 sZ1 sO1 hb1 kD
  go_wp2_with fail
  generalize hW2 : World.alloc (World.alloc (World.alloc w1 _) _) _ = W2
  obtain ⟨x1, x2, x3, xb, xs⟩ := three_at hW2
  have X1 := hide1 x1
  have X2 := hide1 x2
  have XB := hide1 (B1.out.trans (xb.mono B1.out.size))
  have S2 : Hid (Sds W2 (.slice (some ⟨gK0, 0, none⟩) 128 cK0) (dk r0) 128 ∧ Sds W2 (.slice (some ⟨gZ0, 0, none⟩) 128 cZ0) (dz r0) 128 ∧ Sds W2 (.slice (some ⟨gO0, 0, none⟩) 128 cO0) (dn r0) 128) :=
    ⟨SS.out.1.below xb (Nat.le_refl _), SS.out.2.1.below xb (Nat.le_refl _), SS.out.2.2.below xb (Nat.le_refl _)⟩
  have k2 := kOf W2 (some ⟨w1.heap.size + 1 + 1, 0, none⟩) ⟨rfl, fun j x hj => ⟨_, 0, rfl, by
    rw [Nat.zero_add, cell_of_row W2 (w1.heap.size + 2) _ _ _ _ x3]
    match j, hj with
    | 0, hj => cases hj; rfl
    | 1, hj => cases hj; rfl⟩⟩
  have HB12 : Shy (w.heap.size ≤ w1.heap.size) := ⟨B1.out.size⟩
  clear hW2 x1 x2 x3 xb xs SS B1 kOf
  obtain ⟨b1, hb1⟩ : ∃ b, b = w1.heap.size := ⟨_, rfl⟩
  rw [← hb1] at X1 X2 HB12 k2 ⊢
  clear hb1
  go_at_call 9
  refine k2.out.mono ?_
  rintro e w3 ⟨av, rfl, hv3, hb3⟩
  obtain ⟨W3, hW3⟩ : ∃ W, W = w3.alloc (.cells #[.int .i64 2, .slice av (T.need 2 64) (T.need 2 64)] 40) := ⟨_, rfl⟩
  have hb4 : Below w3.heap.size w3 W3 := by rw [hW3]; exact T.below_alloc1 _ _
  have hb := hb3.trans (hb4.mono hb3.size)
  have Y1 := hide1 ((hb.block _ (T.lt_heap X1.out)).trans X1.out)
  have Y2 := hide1 ((hb.block _ (T.lt_heap X2.out)).trans X2.out)
  have YB := hide1 (XB.out.trans (hb.mono XB.out.size))
  have S3 : Hid (Sds W3 (.slice (some ⟨gK0, 0, none⟩) 128 cK0) (dk r0) 128 ∧ Sds W3 (.slice (some ⟨gZ0, 0, none⟩) 128 cZ0) (dz r0) 128 ∧ Sds W3 (.slice (some ⟨gO0, 0, none⟩) 128 cO0) (dn r0) 128) :=
    ⟨S2.out.1.below hb (Nat.le_refl _), S2.out.2.1.below hb (Nat.le_refl _), S2.out.2.2.below hb (Nat.le_refl _)⟩
  have V3 := hide1 (hv3.below hb4 (Nat.le_refl _))
  have hbx : W3.heap[w3.heap.size]? = some (.cells #[.int .i64 2, .slice av (T.need 2 64) (T.need 2 64)] 40 (0, 0)) := by rw [hW3]; exact heap_alloc_new _ _
  obtain ⟨q0, q1, q2, q3, q4⟩ := T.box2 hbx
  clear hb3 hb4 hb hv3 k2 X1 X2 XB S2
  go_upto_region 3 with (fail)
  rw [← hW3]
  clear hW3
  have rr := view_recv Y2.out
  have kR : Hid (Calls Try.prog 10 #[.agg #[.slice (some ⟨gZ0, 0, none⟩) 128 cZ0, .slice (some ⟨gO0, 0, none⟩) 128 cO0], .int .u64 0, .agg #[.int .i64 2, .slice av (T.need 2 64) (T.need 2 64)]] W3 fun e w' => ∃ gs gr aa, e = .returned (.tuple #[.slice (some ⟨gs, 0, none⟩) 128 128, .slice (some ⟨gr, 0, none⟩) 2 2, .int .i64 0]) ∧ T.Vrow w' gs 128 2 aa (sentC (dz r0) (dn r0) 0 2 [false, true]) ∧ w'.heap[gr]? = some (T.rrow (T.rowV (fun i => cl (dz r0 i) 0 2)) 2) ∧ Below W3.heap.size W3 w') :=
    receive_yes _ _ (dz r0) (dn r0) 0 2 _ av [false, true] W3 S3.out.2.1 S3.out.2.2 (good_dz r0) (good_dn r0) V3.out rfl (by omega) (by omega)
  go_wp2_with (first | (refine wpList_load_mid rfl 33 (.tmp 21) rfl (b1 + 1) 3 rfl [.slice (some ⟨gZ0, 0, none⟩) 128 cZ0, .slice (some ⟨gO0, 0, none⟩) 128 cO0] _ rr Try.underlying33 rfl (by kernel_rfl) ?_) | fail)
  go_at_call 10
  refine kR.out.mono ?_
  rintro e w4 ⟨gs, gt, aa, rfl, hvr, hrt, hb4⟩
  have U1 := hide1 ((hb4.block _ (T.lt_heap Y1.out)).trans Y1.out)
  have UB := hide1 (YB.out.trans (hb4.mono YB.out.size))
  have VS := hide1 (hvr.vcs (by omega))
  have RT := hide1 hrt
  have KS := hide1 (S3.out.1.below hb4 (Nat.le_refl _))
  clear hvr hrt hb4 Y1 Y2 YB S3 V3 kR rr q0 q1 q2 q3 q4 hbx
  go_upto_region 4 with (fail)
  have rr := view_send U1.out
  have kS : Hid (Calls Try.prog 15 #[.agg #[.int .u64 (d0 : Int), .int .u64 (d1 : Int), .slice (some ⟨gK0, 0, none⟩) 128 cK0], .int .u64 0, .slice (some ⟨gs, 0, none⟩) 128 128] w4 fun e w' => ∃ gr, e = .returned (.tuple #[.slice (some ⟨gr, 0, none⟩) 2 2, .int .i64 0]) ∧ w'.heap[gr]? = some (T.rrow (T.rowV (keyC (dk r0) d0 d1 0 2 (sentC (dz r0) (dn r0) 0 2 [false, true]))) 2) ∧ Below w4.heap.size w4 w') :=
    send_yes d0 d1 _ (dk r0) 0 2 128 _ (fun _ => 2) aa _ w4 VS.out KS.out (good_dk r0) hn0 hn1 rfl (by omega) (by omega) (fun _ _ => rfl) (Nat.le_refl _)
  go_wp2_with (first | (refine wpList_load_mid rfl 31 (.tmp 29) rfl b1 0 rfl [.int .u64 (d0 : Int), .int .u64 (d1 : Int), .slice (some ⟨gK0, 0, none⟩) 128 cK0] _ rr Try.underlying31 rfl (by kernel_rfl) ?_) | fail)
  go_at_call 15
  refine kS.out.mono ?_
  rintro e V ⟨gq, rfl, hrq, hb5⟩
  have Z1 := hide1 ((hb5.block _ (T.lt_heap U1.out)).trans U1.out)
  have ZB := hide1 (UB.out.trans (hb5.mono UB.out.size))
  have RT2 := hide1 ((hb5.block _ (T.lt_heap RT.out)).trans RT.out)
  have RQ := hide1 hrq
  clear hrq hb5 U1 UB VS RT KS kS rr
  have j0 := joins (dk r0) (dz r0) (dn r0) d0 d1 0 (N := 2) (j := 0) (ch := [false, true]) hdk.out hn0 hn1 rfl (by omega)
  have j1 := joins (dk r0) (dz r0) (dn r0) d0 d1 0 (N := 2) (j := 1) (ch := [false, true]) hdk.out hn0 hn1 rfl (by omega)
  have ht0 := T.rowV_lt (fun i => cl (dz r0 i) 0 2) 1 0
  have ht1 := T.rowV_lt (fun i => cl (dz r0 i) 0 2) 1 1
  generalize T.rowV (keyC (dk r0) d0 d1 0 2 (sentC (dz r0) (dn r0) 0 2 [false, true])) = Q at *
  generalize T.rowV (fun i => cl (dz r0 i) 0 2) = R at *
  have e0 : Q 0 0 = R 0 0 ∧ Q 0 1 = R 0 1 := by simpa [rowOk, tm] using j0
  have e1 : Q 1 0 = R 1 0 ^^^ d0 ∧ Q 1 1 = R 1 1 ^^^ d1 := by simpa [rowOk, tm] using j1
  have kc : ∀ {g : Nat} {G : Nat → Nat → Nat} {a b c d : Nat}, V.heap[g]? = some (T.rrow G 2) → G 0 0 = a → G 0 1 = b → G 1 0 = c → G 1 1 = d → ∀ W, Below V.heap.size V W → (W.cell? ⟨g, 0, none⟩ = some (.int .u64 (a : Int)) ∧ W.cell? ⟨g, 1, none⟩ = some (.int .u64 (b : Int))) ∧ (W.cell? ⟨g, 2, none⟩ = some (.int .u64 (c : Int)) ∧ W.cell? ⟨g, 3, none⟩ = some (.int .u64 (d : Int))) := by
    rintro g G a b c d h rfl rfl rfl rfl W hW
    have h' := (hW.block _ (T.lt_heap h)).trans h
    exact ⟨⟨T.rrow_cell (j := 0) (p := 0) h' (by omega) (by omega), T.rrow_cell (j := 0) (p := 1) h' (by omega) (by omega)⟩, ⟨T.rrow_cell (j := 1) (p := 0) h' (by omega) (by omega), T.rrow_cell (j := 1) (p := 1) h' (by omega) (by omega)⟩⟩
  obtain ⟨q00, hq00⟩ : ∃ x, x = Q 0 0 := ⟨_, rfl⟩
  obtain ⟨q01, hq01⟩ : ∃ x, x = Q 0 1 := ⟨_, rfl⟩
  obtain ⟨q10, hq10⟩ : ∃ x, x = Q 1 0 := ⟨_, rfl⟩
  obtain ⟨q11, hq11⟩ : ∃ x, x = Q 1 1 := ⟨_, rfl⟩
  obtain ⟨t00, ht00⟩ : ∃ x, x = R 0 0 := ⟨_, rfl⟩
  obtain ⟨t01, ht01⟩ : ∃ x, x = R 0 1 := ⟨_, rfl⟩
  obtain ⟨t10, ht10⟩ : ∃ x, x = R 1 0 := ⟨_, rfl⟩
  obtain ⟨t11, ht11⟩ : ∃ x, x = R 1 1 := ⟨_, rfl⟩
  have CQ := hide1 (kc RQ.out hq00.symm hq01.symm hq10.symm hq11.symm)
  have CT := hide1 (kc RT2.out ht00.symm ht01.symm ht10.symm ht11.symm)
  have CQ0 : Hid (∀ W, Below V.heap.size V W → _) := fun W hW => (CQ.out W hW).1
  have CQ1 : Hid (∀ W, Below V.heap.size V W → _) := fun W hW => (CQ.out W hW).2
  have CT0 : Hid (∀ W, Below V.heap.size V W → _) := fun W hW => (CT.out W hW).1
  have CT1 : Hid (∀ W, Below V.heap.size V W → _) := fun W hW => (CT.out W hW).2
  have CD : Hid (∀ W, Below V.heap.size V W → W.cell? ⟨b1, 0, none⟩ = some (.int .u64 (d0 : Int)) ∧ W.cell? ⟨b1, 1, none⟩ = some (.int .u64 (d1 : Int))) := fun W hW => by
    have h := (hW.block _ (T.lt_heap Z1.out)).trans Z1.out
    rw [cell_of_row W b1 _ _ _ _ h, cell_of_row W b1 _ _ _ _ h]
    exact ⟨rfl, rfl⟩
  rw [← hq00, ← hq01, ← ht00, ← ht01] at e0
  rw [← hq10, ← hq11, ← ht10, ← ht11] at e1
  rw [← ht10] at ht0
  rw [← ht11] at ht1
  have HE0 : Hid (decide (q00 = t00 ∧ q01 = t01) = true) := decide_eq_true e0
  have HE1 : Hid (decide (q10 = t10 ^^^ d0 ∧ q11 = t11 ^^^ d1) = true) := decide_eq_true e1
  have kO := fun W => hide1 (other_any t10 t11 d0 d1 W ht0 ht1 hn0 hn1)
  clear hq00 hq01 hq10 hq11 ht00 ht01 ht10 ht11 kc CQ CT e0 e1 j0 j1 ht0 ht1 RQ RT2
  go_upto_region 5 with (fail)
  refine region_f (F := []) (S := fun W' => Below V.heap.size V W') (by kernel_rfl) (Below.refl _ _).drew (fun hS => ?_)
  refine take_p 0 35 (.int .i64 0) rfl rfl (by kernel_rfl) (by kernel_rfl) (by kernel_rfl) (fun _ _ _ h => h) rfl (fun w => by go_simp) ?_
  try simp only [List.setIfInBounds_toArray, List.set_cons_zero, List.set_cons_succ]
  refine take_p 1 36 (.bool true) rfl rfl (by kernel_rfl) (by kernel_rfl) (by kernel_rfl) (fun _ _ _ h => h) rfl (fun w => by go_simp) ?_
  try simp only [List.setIfInBounds_toArray, List.set_cons_zero, List.set_cons_succ]
  refine take_p 2 37 (.bool true) rfl rfl (by kernel_rfl) (by kernel_rfl) (by kernel_rfl) (fun _ _ _ h => h) rfl (fun w => by go_simp) ?_
  try simp only [List.setIfInBounds_toArray, List.set_cons_zero, List.set_cons_succ]
  refine take_p 3 38 (.int .i64 0) rfl rfl (by kernel_rfl) (by kernel_rfl) (by kernel_rfl) (fun _ _ _ h => h) rfl (fun w => by go_simp) ?_
  try simp only [List.setIfInBounds_toArray, List.set_cons_zero, List.set_cons_succ]
  refine take_p 4 39 (.int .i64 0) rfl rfl (by kernel_rfl) (by kernel_rfl) (by kernel_rfl) (fun _ _ _ h => h) rfl (fun w => by go_simp) ?_
  try simp only [List.setIfInBounds_toArray, List.set_cons_zero, List.set_cons_succ]
  refine take_p 5 40 (.bool true) rfl rfl (by kernel_rfl) (by kernel_rfl) (by kernel_rfl) (fun _ _ _ h => h) rfl (fun w => by go_simp) ?_
  try simp only [List.setIfInBounds_toArray, List.set_cons_zero, List.set_cons_succ]
  refine take_p 6 41 (.bool true) rfl rfl (by kernel_rfl) (by kernel_rfl) (by kernel_rfl) (fun _ _ _ h => h) rfl (fun w => by go_simp) ?_
  try simp only [List.setIfInBounds_toArray, List.set_cons_zero, List.set_cons_succ]
  refine take_p 7 42 (.bool true) rfl rfl (by kernel_rfl) (by kernel_rfl) (by kernel_rfl) (fun _ _ _ h => h) rfl (fun w => by go_simp) ?_
  try simp only [List.setIfInBounds_toArray, List.set_cons_zero, List.set_cons_succ]
  refine take_p 8 43 (.slice (some ⟨gt, 0, none⟩) 2 2) rfl rfl (by kernel_rfl) (by kernel_rfl) (by kernel_rfl) (fun _ _ _ h => h) rfl (fun w => by go_simp) ?_
  try simp only [List.setIfInBounds_toArray, List.set_cons_zero, List.set_cons_succ]
  refine take_p 9 44 (.int .i64 2) rfl rfl (by kernel_rfl) (by kernel_rfl) (by kernel_rfl) (fun _ _ _ h => h) rfl (fun w => by go_simp) ?_
  try simp only [List.setIfInBounds_toArray, List.set_cons_zero, List.set_cons_succ]
  refine take_p 10 45 (.bool true) rfl rfl (by kernel_rfl) (by kernel_rfl) (by kernel_rfl) (fun _ _ _ h => h) rfl (fun w => by go_simp) ?_
  try simp only [List.setIfInBounds_toArray, List.set_cons_zero, List.set_cons_succ]
  refine take_p 11 46 (.bool true) rfl rfl (by kernel_rfl) (by kernel_rfl) (by kernel_rfl) (fun _ _ _ h => h) rfl (fun w => by go_simp) ?_
  try simp only [List.setIfInBounds_toArray, List.set_cons_zero, List.set_cons_succ]
  refine take_p 12 47 (.bool true) rfl rfl (by kernel_rfl) (by kernel_rfl) (by kernel_rfl) (fun _ _ _ h => h) rfl (fun w => by go_simp) ?_
  try simp only [List.setIfInBounds_toArray, List.set_cons_zero, List.set_cons_succ]
  refine take_p 13 48 (.slice (some ⟨gq, 0, none⟩) 2 2) rfl rfl (by kernel_rfl) (by kernel_rfl) (by kernel_rfl) (fun _ _ _ h => h) rfl (fun w => by go_simp) ?_
  try simp only [List.setIfInBounds_toArray, List.set_cons_zero, List.set_cons_succ]
  refine take_p 14 49 (.int .i64 2) rfl rfl (by kernel_rfl) (by kernel_rfl) (by kernel_rfl) (fun _ _ _ h => h) rfl (fun w => by go_simp) ?_
  try simp only [List.setIfInBounds_toArray, List.set_cons_zero, List.set_cons_succ]
  refine take_p 15 50 (.bool true) rfl rfl (by kernel_rfl) (by kernel_rfl) (by kernel_rfl) (fun _ _ _ h => h) rfl (fun w => by go_simp) ?_
  try simp only [List.setIfInBounds_toArray, List.set_cons_zero, List.set_cons_succ]
  refine take_p 16 51 (.bool true) rfl rfl (by kernel_rfl) (by kernel_rfl) (by kernel_rfl) (fun _ _ _ h => h) rfl (fun w => by go_simp) ?_
  try simp only [List.setIfInBounds_toArray, List.set_cons_zero, List.set_cons_succ]
  refine take_p 17 52 (.bool true) rfl rfl (by kernel_rfl) (by kernel_rfl) (by kernel_rfl) (fun _ _ _ h => h) rfl (fun w => by go_simp) ?_
  try simp only [List.setIfInBounds_toArray, List.set_cons_zero, List.set_cons_succ]
  refine take_p 18 53 (.slice (some ⟨gq, 0, none⟩) 2 2) rfl rfl (by kernel_rfl) (by kernel_rfl) (by kernel_rfl) (fun _ _ _ h => h) rfl (fun w => by go_simp) ?_
  try simp only [List.setIfInBounds_toArray, List.set_cons_zero, List.set_cons_succ]
  refine take_p 19 54 (.pointer (some ⟨gq, 0, none⟩)) rfl rfl (by kernel_rfl) (by kernel_rfl) (by kernel_rfl) (fun _ _ _ h => h) rfl (fun w => by go_simp) ?_
  try simp only [List.setIfInBounds_toArray, List.set_cons_zero, List.set_cons_succ]
  refine take_f 20 55 (.agg #[.int .u64 (q00 : Int), .int .u64 (q01 : Int)]) [24, 25, 26, 27, 28, 29, 30, 31, 32, 33, 34, 35, 36, 37, 38, 39] rfl rfl (by kernel_rfl) (by kernel_rfl) (by kernel_rfl) (by kernel_rfl) (by kernel_rfl) (by kernel_rfl) (fun _ _ _ h => h) rfl (fun w hSw => by have h1 := (CQ0.out w hSw).1; have h2 := (CQ0.out w hSw).2; go_simp) hS ?_
  try simp only [List.setIfInBounds_toArray, List.set_cons_zero, List.set_cons_succ]
  refine take_p 21 56 (.slice (some ⟨gt, 0, none⟩) 2 2) rfl rfl (by kernel_rfl) (by kernel_rfl) (by kernel_rfl) (fun _ _ _ h => h) rfl (fun w => by go_simp) ?_
  try simp only [List.setIfInBounds_toArray, List.set_cons_zero, List.set_cons_succ]
  refine take_p 22 57 (.pointer (some ⟨gt, 0, none⟩)) rfl rfl (by kernel_rfl) (by kernel_rfl) (by kernel_rfl) (fun _ _ _ h => h) rfl (fun w => by go_simp) ?_
  try simp only [List.setIfInBounds_toArray, List.set_cons_zero, List.set_cons_succ]
  refine take_f 23 58 (.agg #[.int .u64 (t00 : Int), .int .u64 (t01 : Int)]) [24, 25, 26, 27, 28, 29, 30, 31, 32, 33, 34, 35, 36, 37, 38, 39] rfl rfl (by kernel_rfl) (by kernel_rfl) (by kernel_rfl) (by kernel_rfl) (by kernel_rfl) (by kernel_rfl) (fun _ _ _ h => h) rfl (fun w hSw => by have h1 := (CT0.out w hSw).1; have h2 := (CT0.out w hSw).2; go_simp) hS ?_
  try simp only [List.setIfInBounds_toArray, List.set_cons_zero, List.set_cons_succ]
  refine take_p 24 59 (.bool true) rfl rfl (by kernel_rfl) (by kernel_rfl) (by kernel_rfl) (fun _ _ _ h => h) rfl (fun w => by exact exec_eql_row _ _ _ rfl rfl rfl HE0.out) ?_
  try simp only [List.setIfInBounds_toArray, List.set_cons_zero, List.set_cons_succ]
  refine take_p 25 60 (.bool true) rfl rfl (by kernel_rfl) (by kernel_rfl) (by kernel_rfl) (fun _ _ _ h => h) rfl (fun w => by go_simp) ?_
  try simp only [List.setIfInBounds_toArray, List.set_cons_zero, List.set_cons_succ]
  refine take_p 26 61 (.bool true) rfl rfl (by kernel_rfl) (by kernel_rfl) (by kernel_rfl) (fun _ _ _ h => h) rfl (fun w => by go_simp) ?_
  try simp only [List.setIfInBounds_toArray, List.set_cons_zero, List.set_cons_succ]
  refine take_p 27 62 (.slice (some ⟨gq, 0, none⟩) 2 2) rfl rfl (by kernel_rfl) (by kernel_rfl) (by kernel_rfl) (fun _ _ _ h => h) rfl (fun w => by go_simp) ?_
  try simp only [List.setIfInBounds_toArray, List.set_cons_zero, List.set_cons_succ]
  refine take_p 28 63 (.pointer (some ⟨gq, 2, none⟩)) rfl rfl (by kernel_rfl) (by kernel_rfl) (by kernel_rfl) (fun _ _ _ h => h) rfl (fun w => by go_simp) ?_
  try simp only [List.setIfInBounds_toArray, List.set_cons_zero, List.set_cons_succ]
  refine take_f 29 64 (.agg #[.int .u64 (q10 : Int), .int .u64 (q11 : Int)]) [37, 38, 39] rfl rfl (by kernel_rfl) (by kernel_rfl) (by kernel_rfl) (by kernel_rfl) (by kernel_rfl) (by kernel_rfl) (fun _ _ _ h => h) rfl (fun w hSw => by have h1 := (CQ1.out w hSw).1; have h2 := (CQ1.out w hSw).2; go_simp) hS ?_
  try simp only [List.setIfInBounds_toArray, List.set_cons_zero, List.set_cons_succ]
  refine take_p 30 65 (.slice (some ⟨gt, 0, none⟩) 2 2) rfl rfl (by kernel_rfl) (by kernel_rfl) (by kernel_rfl) (fun _ _ _ h => h) rfl (fun w => by go_simp) ?_
  try simp only [List.setIfInBounds_toArray, List.set_cons_zero, List.set_cons_succ]
  refine take_p 31 66 (.pointer (some ⟨gt, 2, none⟩)) rfl rfl (by kernel_rfl) (by kernel_rfl) (by kernel_rfl) (fun _ _ _ h => h) rfl (fun w => by go_simp) ?_
  try simp only [List.setIfInBounds_toArray, List.set_cons_zero, List.set_cons_succ]
  refine take_f 32 67 (.agg #[.int .u64 (t10 : Int), .int .u64 (t11 : Int)]) [36, 37, 38, 39] rfl rfl (by kernel_rfl) (by kernel_rfl) (by kernel_rfl) (by kernel_rfl) (by kernel_rfl) (by kernel_rfl) (fun _ _ _ h => h) rfl (fun w hSw => by have h1 := (CT1.out w hSw).1; have h2 := (CT1.out w hSw).2; go_simp) hS ?_
  try simp only [List.setIfInBounds_toArray, List.set_cons_zero, List.set_cons_succ]
  refine take_p 33 68 (.pointer (some ⟨b1, 0, none⟩)) rfl rfl (by kernel_rfl) (by kernel_rfl) (by kernel_rfl) (fun _ _ _ h => h) rfl (fun w => by go_simp) ?_
  try simp only [List.setIfInBounds_toArray, List.set_cons_zero, List.set_cons_succ]
  refine take_p 34 69 (.pointer (some ⟨b1, 0, none⟩)) rfl rfl (by kernel_rfl) (by kernel_rfl) (by kernel_rfl) (fun _ _ _ h => h) rfl (fun w => by go_simp) ?_
  try simp only [List.setIfInBounds_toArray, List.set_cons_zero, List.set_cons_succ]
  refine take_f 35 70 (.agg #[.int .u64 (d0 : Int), .int .u64 (d1 : Int)]) [36, 37, 38, 39] rfl rfl (by kernel_rfl) (by kernel_rfl) (by kernel_rfl) (by kernel_rfl) (by kernel_rfl) (by kernel_rfl) (fun _ _ _ h => h) rfl (fun w hSw => by have h1 := (CD.out w hSw).1; have h2 := (CD.out w hSw).2; go_simp) hS ?_
  try simp only [List.setIfInBounds_toArray, List.set_cons_zero, List.set_cons_succ]
  refine ready_f 36 (o := { dst := some 71, op := Op.call { callee := Callee.value (Operand.func 19), args := #[Operand.tmp 67, Operand.tmp 70], argTypes := #[28, 28] }, type := 28, pos := "law.go:32", after := #[{ on := 32, ground := Ground.data }, { on := 35, ground := Ground.data }, { on := 26, ground := Ground.chain }, { on := 26, ground := Ground.guard }], guard := some (26, true) }) (by kernel_rfl) rfl (fun K hK => ?_)
  go_simp
  refine (kO _).out.mono ?_
  rintro e w9 ⟨rfl, hb9⟩
  have hS9 := hS.trans (hb9.mono hS.size)
  refine hK.out _ _ (fun _ _ => hS9) ?_
  clear hK K
  try simp only [Act.put, List.setIfInBounds_toArray, List.set_cons_zero, List.set_cons_succ]
  refine take_p 37 72 (.bool true) rfl rfl (by kernel_rfl) (by kernel_rfl) (by kernel_rfl) (fun _ _ _ h => h) rfl (fun w => by exact exec_eql_row _ _ _ rfl rfl rfl HE1.out) ?_
  try simp only [List.setIfInBounds_toArray, List.set_cons_zero, List.set_cons_succ]
  refine take_p 38 73 (.bool true) rfl rfl (by kernel_rfl) (by kernel_rfl) (by kernel_rfl) (fun _ _ _ h => h) rfl (fun w => by go_simp) ?_
  try simp only [List.setIfInBounds_toArray, List.set_cons_zero, List.set_cons_succ]
  refine take_p 39 0 (.bool true) rfl rfl (by kernel_rfl) (by kernel_rfl) (by kernel_rfl) (fun _ _ _ h => h) rfl (fun w => by go_simp) ?_
  try simp only [List.setIfInBounds_toArray, List.set_cons_zero]
  refine done_f (by kernel_rfl) ?_ _
  go_wp2
  go_ret
  exact ⟨rfl, ZB.out.trans (hS9.mono ZB.out.size)⟩
end Go.Proofs.Ytdahnbojnleboaa.I
