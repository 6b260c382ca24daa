/- BaseotRows. -/
import Derived.Test.YtpigbhmamaghgaaOc
import Derived.Test.YtpigbhmamaghgaaMk
namespace Go.Proofs.Ytpigbhmamaghgaa
open Go.RowKit Pg
set_option maxRecDepth 100000
attribute [local go_sem] not_any

theorem cells2 {w : World} {g a b : Nat} (h : w.heap[g]? = some (row2 a b)) : w.cell? ⟨g, 0, none⟩ = some (.int .u64 (a : Int)) ∧ w.cell? ⟨g, 1, none⟩ = some (.int .u64 (b : Int)) :=
  ⟨by rw [cell_of_row w g 0 _ _ _ h]; rfl, by rw [cell_of_row w g 1 _ _ _ h]; rfl⟩
theorem bt_xor {a b c d k : Nat} (h : k < 128) : bt (a ^^^ c) (b ^^^ d) (k : Int) = (bt a b (k : Int) != bt c d (k : Int)) := by
  by_cases h1 : k < 64
  · rw [bt_lo h1, bt_lo h1, bt_lo h1, Nat.testBit_xor]
  · obtain ⟨m, rfl⟩ : ∃ m, k = 64 + m := ⟨k - 64, by omega⟩
    rw [bt_hi (by omega), bt_hi (by omega), bt_hi (by omega), Nat.testBit_xor]
theorem bt_times {t : Bool} {a b k : Nat} (h : k < 128) : bt (if t then a else 0) (if t then b else 0) (k : Int) = (t && bt a b (k : Int)) := by
  cases t
  · by_cases h1 : k < 64
    · rw [bt_lo h1]; simp
    · obtain ⟨m, rfl⟩ : ∃ m, k = 64 + m := ⟨k - 64, by omega⟩
      rw [bt_hi (by omega)]; simp
  · rfl

set_option maxHeartbeats 2000000 in
theorem rows_all (w : World) (a b c d : Nat) (i : Int) (t : Bool) (ha : a < 18446744073709551616) (hb : b < 18446744073709551616) (hc : c < 18446744073709551616) (hd : d < 18446744073709551616) :
    Calls Try.prog 5 #[rw2 a b, rw2 c d, .int .i64 i, .bool t] w fun e w' => e = .returned (.bool true) ∧ Below w.heap.size w w' := by
  have kO := fun w => hide1 (other_any a b c d w ha hb hc hd)
  have kT := fun w => hide1 (times_any t a b w)
  have HX : Shy (∀ k : Nat, k < 128 → bt (a ^^^ c) (b ^^^ d) (k : Int) = (bt a b (k : Int) != bt c d (k : Int)) ∧ bt (if t then a else 0) (if t then b else 0) (k : Int) = (t && bt a b (k : Int))) := ⟨fun k hk => ⟨bt_xor hk, bt_times hk⟩⟩
  generalize a ^^^ c = xa at *
  generalize b ^^^ d = xb at *
  generalize (if t then a else 0) = ya at *
  generalize (if t then b else 0) = yb at *
  have kB := fun (i : Int) w => hide1 (bit_any a b i w ha hb)
  have kR := fun (x y : Nat) (i : Int) w => hide1 (rbit_any x y i w)
  have kY := fun w => hide1 (bytes16_any a b w ha)
  have kZ := fun w => hide1 (rbytes16_any a b w ha)
  have kA := fun w => hide1 (awake_any w)
  generalize txt (bysP a b 16) = tx at *
  have mx := mixed
  clear ha hb hc hd
  unfold rw2 at *
  go_enter Try.func5, Try.ntmps5
  go_upto_region 1 with (fail)
  generalize hX : World.alloc (World.alloc w _) _ = X
  have x0 : X.heap[w.heap.size]? = some (row2 a b) := by rw [← hX]; exact heap_alloc2_old _ _ _
  have x1 : X.heap[w.heap.size + 1]? = some (row2 c d) := by rw [← hX]; exact heap_alloc2_new _ _ _
  have xb' : Below w.heap.size w X := by rw [← hX]; exact ((Below.refl _ _).alloc (Nat.le_refl _) _).alloc (by simp) _
  have HR0 : Hid (∀ w' : World, Below X.heap.size X w' → w'.heap[w.heap.size]? = some (row2 a b)) := fun w' hb => (hb.block _ (lt_heap x0)).trans x0
  have HR1 : Hid (∀ w' : World, Below X.heap.size X w' → w'.heap[w.heap.size + 1]? = some (row2 c d)) := fun w' hb => (hb.block _ (lt_heap x1)).trans x1
  have XB := hide1 xb'
  clear hX x0 x1 xb'
  refine region_f (F := []) (S := fun w' => Below X.heap.size X w') (by kernel_rfl) ((Below.refl _ _).drew) (fun hS => ?_)
  refine take_f 0 12 (.agg #[.int .u64 (a : Int), .int .u64 (b : Int)]) [2, 5, 8, 9] rfl rfl (by kernel_rfl) (by kernel_rfl) (by kernel_rfl) (by kernel_rfl) (by kernel_rfl) (by kernel_rfl) (fun _ _ _ h => h) rfl (fun w hSw => by exact exec_load_row 26 (.tmp 4) rfl _ rfl 26 _ _ _ (HR0.out _ hSw) Try.underlying26 (hi26 _ _)) hS ?_
  try simp only [List.setIfInBounds_toArray, List.set_cons_zero, List.set_cons_succ]
  refine take_f 1 13 (.agg #[.int .u64 (c : Int), .int .u64 (d : Int)]) [2, 5, 8, 9] rfl rfl (by kernel_rfl) (by kernel_rfl) (by kernel_rfl) (by kernel_rfl) (by kernel_rfl) (by kernel_rfl) (fun _ _ _ h => h) rfl (fun w hSw => by exact exec_load_row 26 (.tmp 5) rfl _ rfl 26 _ _ _ (HR1.out _ hSw) Try.underlying26 (hi26 _ _)) hS ?_
  try simp only [List.setIfInBounds_toArray, List.set_cons_zero, List.set_cons_succ]
  refine take_p 3 15 (.bool t) rfl rfl (by kernel_rfl) (by kernel_rfl) (by kernel_rfl) (fun _ _ _ h => h) rfl (fun w => by go_simp) ?_
  try simp only [List.setIfInBounds_toArray, List.set_cons_zero, List.set_cons_succ]
  refine take_f 4 16 (.agg #[.int .u64 (a : Int), .int .u64 (b : Int)]) [5, 8, 9] rfl rfl (by kernel_rfl) (by kernel_rfl) (by kernel_rfl) (by kernel_rfl) (by kernel_rfl) (by kernel_rfl) (fun _ _ _ h => h) rfl (fun w hSw => by exact exec_load_row 26 (.tmp 4) rfl _ rfl 26 _ _ _ (HR0.out _ hSw) Try.underlying26 (hi26 _ _)) hS ?_
  try simp only [List.setIfInBounds_toArray, List.set_cons_zero, List.set_cons_succ]
  refine makers [(2, 14), (5, 17), (6, 9), (7, 10)] [8, 9] 2 (preOf [(2, Tl (.agg #[.int .u64 (xa : Int), .int .u64 (xb : Int)])), (5, Tl (.agg #[.int .u64 (ya : Int), .int .u64 (yb : Int)])), (6, Nb (row2 0 0)), (7, Nb (row2 0 0))]) (by kernel_rfl) rfl (fun _ h => hS.trans h) (preOf_stays ⟨tl_stays _, tl_stays _, nb_stays _, nb_stays _, trivial⟩) ?_ ?_
  · refine ⟨⟨{ dst := some 14, op := Op.call { callee := Callee.value (Operand.func 14), args := #[Operand.tmp 12, Operand.tmp 13], argTypes := #[26, 26] }, type := 26, pos := "law.go:49", after := #[{ on := 0, ground := Ground.data }, { on := 1, ground := Ground.data }], guard := none }, rfl, fun us lo hi V hV hP hD K hK => ?_⟩, ⟨⟨{ dst := some 17, op := Op.call { callee := Callee.value (Operand.func 15), args := #[Operand.tmp 15, Operand.tmp 16], argTypes := #[4, 26] }, type := 26, pos := "law.go:49", after := #[{ on := 3, ground := Ground.data }, { on := 4, ground := Ground.data }, { on := 2, ground := Ground.chain }], guard := none }, rfl, fun us lo hi V hV hP hD K hK => ?_⟩, ⟨⟨{ dst := some 9, op := Op.alloc 26, type := 0, pos := "law.go:49", after := #[], guard := none }, rfl, fun us lo hi V hV hP hD K hK => ?_⟩, ⟨⟨{ dst := some 10, op := Op.alloc 26, type := 0, pos := "law.go:49", after := #[], guard := none }, rfl, fun us lo hi V hV hP hD K hK => ?_⟩, trivial⟩⟩⟩⟩
    · simp only [fill_cons, fill_nil, List.setIfInBounds_toArray, List.set_cons_zero, List.set_cons_succ]
      go_simp
      refine (kO _).out.mono ?_
      rintro e V1 ⟨rfl, hb⟩
      exact hK.out _ _ hb rfl
    · simp only [fill_cons, fill_nil, List.setIfInBounds_toArray, List.set_cons_zero, List.set_cons_succ]
      have p2 := (hP 2 (by kernel_rfl) (by decide)).pre
      go_simp
      refine (kT _).out.mono ?_
      rintro e V1 ⟨rfl, hb⟩
      exact hK.out _ _ hb rfl
    · simp only [fill_cons, fill_nil, List.setIfInBounds_toArray, List.set_cons_zero, List.set_cons_succ]
      go_simp
      exact hK.out _ _ (below_new _ _) (nb_new _ _ us)
    · simp only [fill_cons, fill_nil, List.setIfInBounds_toArray, List.set_cons_zero, List.set_cons_succ]
      go_simp
      exact hK.out _ _ (below_new _ _) (nb_new _ _ us)
  intro us lo hi V hV hI hD
  have m2 : us 2 = .agg #[.int .u64 (xa : Int), .int .u64 (xb : Int)] := (hI 2 (by decide)).pre
  have m5 : us 5 = .agg #[.int .u64 (ya : Int), .int .u64 (yb : Int)] := (hI 5 (by decide)).pre
  obtain ⟨m6, l6, r6⟩ : Nb (row2 0 0) us (us 6) (lo 6) (hi 6) V := (hI 6 (by decide)).pre
  obtain ⟨m7, l7, r7⟩ : Nb (row2 0 0) us (us 7) (lo 7) (hi 7) V := (hI 7 (by decide)).pre
  have b6 := (hI 6 (by decide)).base
  have b7 := (hI 7 (by decide)).base
  have dj := hD 6 (by decide) 7 (by decide) (by decide)
  have hne : lo 6 ≠ lo 7 := by omega
  rw [show X.drew.heap.size = X.heap.size from rfl] at b6 b7
  simp only [fill_cons, fill_nil, List.setIfInBounds_toArray, List.set_cons_zero, List.set_cons_succ]
  rw [m2, m5, m6, m7]
  generalize lo 6 = g9 at *
  generalize lo 7 = g10 at *
  have HV := hS.trans hV
  clear m2 m5 m6 m7 hI hD dj l6 l7 hV hS us hi lo
  refine ready_f 8 (o := { dst := none, op := Op.store 26 (Operand.tmp 9) (Operand.tmp 14), type := 0, pos := "law.go:49", after := #[{ on := 6, ground := Ground.data }, { on := 2, ground := Ground.data }, { on := 5, ground := Ground.chain }, { on := 0, ground := Ground.phase }, { on := 1, ground := Ground.phase }, { on := 2, ground := Ground.phase }, { on := 3, ground := Ground.textOnly Departure.lateStores }, { on := 4, ground := Ground.textOnly Departure.lateStores }, { on := 5, ground := Ground.textOnly Departure.lateStoresUnsure }, { on := 6, ground := Ground.phase }, { on := 7, ground := Ground.phase }], guard := none }) (by kernel_rfl) rfl (fun K hK => ?_)
  rw [if_pos (by rfl)]
  refine wp_store_row 26 _ _ rfl g9 _ rfl rfl 26 _ r6 (by kernel_rfl) rfl (by kernel_rfl) ?_
  refine hK.out _ _ (fun _ h => Below.setRow' h b6 _) ?_
  clear hK K
  refine ready_f 9 (o := { dst := none, op := Op.store 26 (Operand.tmp 10) (Operand.tmp 17), type := 0, pos := "law.go:49", after := #[{ on := 7, ground := Ground.data }, { on := 5, ground := Ground.data }, { on := 8, ground := Ground.chain }, { on := 0, ground := Ground.phase }, { on := 1, ground := Ground.phase }, { on := 2, ground := Ground.phase }, { on := 3, ground := Ground.phase }, { on := 4, ground := Ground.phase }, { on := 5, ground := Ground.phase }, { on := 6, ground := Ground.phase }, { on := 7, ground := Ground.phase }, { on := 8, ground := Ground.phase }], guard := none }) (by kernel_rfl) rfl (fun K hK => ?_)
  rw [if_pos (by rfl)]
  refine wp_store_row 26 _ _ rfl g10 _ rfl rfl 26 _ ((setRow_other _ _ _ _ (Ne.symm hne)).trans r7) (by kernel_rfl) rfl (by kernel_rfl) ?_
  refine hK.out _ _ (fun _ h => Below.setRow' h b7 _) ?_
  clear hK K
  refine done_f (by kernel_rfl) ?_ _
  have hV2 := Below.setRow' (Below.setRow' HV b6 #[.int .u64 (xa : Int), .int .u64 (xb : Int)]) b7 #[.int .u64 (ya : Int), .int .u64 (yb : Int)]
  have r7' := setRow_heap (V.setRow g9 #[.int .u64 (xa : Int), .int .u64 (xb : Int)]) g10 _ #[.int .u64 (ya : Int), .int .u64 (yb : Int)] _ _ ((setRow_other _ _ _ _ (Ne.symm hne)).trans r7)
  have r6' := (setRow_other (V.setRow g9 #[.int .u64 (xa : Int), .int .u64 (xb : Int)]) g10 g9 #[.int .u64 (ya : Int), .int .u64 (yb : Int)] hne).trans (setRow_heap V g9 _ #[.int .u64 (xa : Int), .int .u64 (xb : Int)] _ _ r6)
  generalize World.setRow (World.setRow V _ _) _ _ = Y at *
  have D0 : Hid (∀ w' : World, Below Y.heap.size Y w' → w'.heap[w.heap.size]? = some (row2 a b)) := fun w' hb => (hb.block _ (lt_heap (HR0.out _ hV2))).trans (HR0.out _ hV2)
  have D1 : Hid (∀ w' : World, Below Y.heap.size Y w' → w'.heap[w.heap.size + 1]? = some (row2 c d)) := fun w' hb => (hb.block _ (lt_heap (HR1.out _ hV2))).trans (HR1.out _ hV2)
  have D9 : Hid (∀ w' : World, Below Y.heap.size Y w' → w'.heap[g9]? = some (row2 xa xb)) := fun w' hb => (hb.block _ (lt_heap r6')).trans r6'
  have D10 : Hid (∀ w' : World, Below Y.heap.size Y w' → w'.heap[g10]? = some (row2 ya yb)) := fun w' hb => (hb.block _ (lt_heap r7')).trans r7'
  have YB := hide1 (XB.out.trans (hV2.mono XB.out.size))
  clear r6 r7 HV b6 b7 hne V hV2 r7' r6' kO kT HR0 HR1 XB X
  go_upto_region 2 with (fail)
  refine region_f (F := []) (S := fun w' => Below Y.heap.size Y w') (by kernel_rfl) ((Below.refl _ _).drew) (fun hS => ?_)
  refine take_f 0 18 (.agg #[.int .u64 (a : Int), .int .u64 (b : Int)]) [2, 5, 6, 7, 8, 9, 10, 11, 12, 13] rfl rfl (by kernel_rfl) (by kernel_rfl) (by kernel_rfl) (by kernel_rfl) (by kernel_rfl) (by kernel_rfl) (fun _ _ _ h => h) rfl (fun w hSw => by exact exec_load_row 26 (.tmp 4) rfl _ rfl 26 _ _ _ (D0.out _ hSw) Try.underlying26 (hi26 _ _)) hS ?_
  try simp only [List.setIfInBounds_toArray, List.set_cons_zero, List.set_cons_succ]
  refine take_p 1 19 (.int .i64 i) rfl rfl (by kernel_rfl) (by kernel_rfl) (by kernel_rfl) (fun _ _ _ h => h) rfl (fun w => by go_simp) ?_
  try simp only [List.setIfInBounds_toArray, List.set_cons_zero, List.set_cons_succ]
  refine take_f 3 21 (.agg #[.int .u64 (a : Int), .int .u64 (b : Int)]) [5, 6, 7, 8, 9, 10, 11, 12, 13] rfl rfl (by kernel_rfl) (by kernel_rfl) (by kernel_rfl) (by kernel_rfl) (by kernel_rfl) (by kernel_rfl) (fun _ _ _ h => h) rfl (fun w hSw => by exact exec_load_row 26 (.tmp 4) rfl _ rfl 26 _ _ _ (D0.out _ hSw) Try.underlying26 (hi26 _ _)) hS ?_
  try simp only [List.setIfInBounds_toArray, List.set_cons_zero, List.set_cons_succ]
  refine take_p 4 22 (.int .i64 i) rfl rfl (by kernel_rfl) (by kernel_rfl) (by kernel_rfl) (fun _ _ _ h => h) rfl (fun w => by go_simp) ?_
  try simp only [List.setIfInBounds_toArray, List.set_cons_zero, List.set_cons_succ]
  have hS0 := hS
  clear hS
  refine ready_f 2 (o := { dst := some 20, op := Op.call { callee := Callee.value (Operand.func 16), args := #[Operand.tmp 18, Operand.tmp 19], argTypes := #[26, 3] }, type := 4, pos := "law.go:50", after := #[{ on := 0, ground := Ground.data }, { on := 1, ground := Ground.data }], guard := none }) (by kernel_rfl) rfl (fun K hK => ?_)
  go_simp
  refine (kB _ _).out.mono ?_
  rintro e v1 ⟨rfl, hb1⟩
  have hS1 := hS0.trans (hb1.mono hS0.size)
  refine hK.out _ _ (fun _ _ => hS1) ?_
  clear hK K
  try simp only [Act.put, List.setIfInBounds_toArray, List.set_cons_zero, List.set_cons_succ]
  clear hb1 hS0
  refine ready_f 5 (o := { dst := some 23, op := Op.call { callee := Callee.value (Operand.func 17), args := #[Operand.tmp 21, Operand.tmp 22], argTypes := #[26, 3] }, type := 4, pos := "law.go:50", after := #[{ on := 3, ground := Ground.data }, { on := 4, ground := Ground.data }, { on := 2, ground := Ground.chain }], guard := none }) (by kernel_rfl) rfl (fun K hK => ?_)
  go_simp
  refine (kR _ _ _ _).out.mono ?_
  rintro e v2 ⟨rfl, hb2⟩
  have hS2 := hS1.trans (hb2.mono hS1.size)
  refine hK.out _ _ (fun _ _ => hS2) ?_
  clear hK K
  try simp only [Act.put, List.setIfInBounds_toArray, List.set_cons_zero, List.set_cons_succ]
  clear hb2 hS1
  have hS := hS2
  refine take_p 6 24 (.bool false) rfl rfl (by kernel_rfl) (by kernel_rfl) (by kernel_rfl) (fun _ _ _ h => h) rfl (fun w => by go_simp) ?_
  try simp only [List.setIfInBounds_toArray, List.set_cons_zero, List.set_cons_succ]
  refine take_p 7 25 (.bool false) rfl rfl (by kernel_rfl) (by kernel_rfl) (by kernel_rfl) (fun _ _ _ h => h) rfl (fun w => by go_simp) ?_
  try simp only [List.setIfInBounds_toArray, List.set_cons_zero, List.set_cons_succ]
  refine take_f 8 26 (.agg #[.int .u64 (a : Int), .int .u64 (b : Int)]) [9, 11, 12, 13] rfl rfl (by kernel_rfl) (by kernel_rfl) (by kernel_rfl) (by kernel_rfl) (by kernel_rfl) (by kernel_rfl) (fun _ _ _ h => h) rfl (fun w hSw => by exact exec_load_row 26 (.tmp 4) rfl _ rfl 26 _ _ _ (D0.out _ hSw) Try.underlying26 (hi26 _ _)) hS ?_
  try simp only [List.setIfInBounds_toArray, List.set_cons_zero, List.set_cons_succ]
  refine take_f 10 28 (.agg #[.int .u64 (a : Int), .int .u64 (b : Int)]) [11, 12, 13] rfl rfl (by kernel_rfl) (by kernel_rfl) (by kernel_rfl) (by kernel_rfl) (by kernel_rfl) (by kernel_rfl) (fun _ _ _ h => h) rfl (fun w hSw => by exact exec_load_row 26 (.tmp 4) rfl _ rfl 26 _ _ _ (D0.out _ hSw) Try.underlying26 (hi26 _ _)) hS ?_
  try simp only [List.setIfInBounds_toArray, List.set_cons_zero, List.set_cons_succ]
  clear hS
  refine ready_f 9 (o := { dst := some 27, op := Op.call { callee := Callee.value (Operand.func 9), args := #[Operand.tmp 26], argTypes := #[26] }, type := 9, pos := "law.go:50", after := #[{ on := 8, ground := Ground.data }, { on := 7, ground := Ground.chain }, { on := 7, ground := Ground.guard }], guard := some (7, false) }) (by kernel_rfl) rfl (fun K hK => ?_)
  go_simp
  refine (kY _).out.mono ?_
  rintro e v3 ⟨rfl, hb3⟩
  have hS3 := hS2.trans (hb3.mono hS2.size)
  refine hK.out _ _ (fun _ _ => hS3) ?_
  clear hK K
  try simp only [Act.put, List.setIfInBounds_toArray, List.set_cons_zero, List.set_cons_succ]
  clear hb3 hS2
  refine ready_f 11 (o := { dst := some 29, op := Op.call { callee := Callee.value (Operand.func 18), args := #[Operand.tmp 28], argTypes := #[26] }, type := 9, pos := "law.go:50", after := #[{ on := 10, ground := Ground.data }, { on := 9, ground := Ground.chain }, { on := 7, ground := Ground.guard }], guard := some (7, false) }) (by kernel_rfl) rfl (fun K hK => ?_)
  go_simp
  refine (kZ _).out.mono ?_
  rintro e v4 ⟨rfl, hb4⟩
  have hS4 := hS3.trans (hb4.mono hS3.size)
  refine hK.out _ _ (fun _ _ => hS4) ?_
  clear hK K
  try simp only [Act.put, List.setIfInBounds_toArray, List.set_cons_zero, List.set_cons_succ]
  clear hb4 hS3
  refine take_p 12 30 (.bool false) rfl rfl (by kernel_rfl) (by kernel_rfl) (by kernel_rfl) (fun _ _ _ h => h) rfl (fun w => by go_simp) ?_
  try simp only [List.setIfInBounds_toArray, List.set_cons_zero, List.set_cons_succ]
  refine take_p 13 31 (.bool false) rfl rfl (by kernel_rfl) (by kernel_rfl) (by kernel_rfl) (fun _ _ _ h => h) rfl (fun w => by go_simp) ?_
  try simp only [List.setIfInBounds_toArray, List.set_cons_zero, List.set_cons_succ]
  refine done_f (by kernel_rfl) ?_ _
  have HS := hide1 hS4
  clear hS4
  generalize v4 = Z at HS ⊢
  go_wp2
  go_loopw [11] (fun v wr => ∃ k : Nat, k ≤ 128 ∧ v = .int .i64 k ∧ Below Y.heap.size Y wr) (fun v _ => 128 - (intOf v).toNat)
  case atStart => exact ⟨0, Nat.zero_le _, rfl, HS.out⟩
  case round =>
    obtain ⟨k, hk, rfl, hbe⟩ := hrel
    by_cases hlt : k < 128
    · have bk : (k : Int) < 128 := by omega
      have HZ := hide1 hbe
      obtain ⟨e1, e2⟩ := HX.out k hlt
      have kX := fun w => kR xa xb (k : Int) w
      have kW := fun w => kR ya yb (k : Int) w
      have kQ := fun w => kR a b (k : Int) w
      have kC := fun w => kR c d (k : Int) w
      rw [e1] at kX
      rw [e2] at kW
      generalize bt a b (k : Int) = q at *
      generalize bt c d (k : Int) = r at *
      clear e1 e2 hbe
      cases t with
      | true =>
        rw [Bool.true_and] at kW
        go_upto_region 7 with (fail)
        refine region_f (F := []) (S := fun w' => Below Y.heap.size Y w') (by kernel_rfl) HZ.out.drew (fun hS => ?_)
        refine take_f 0 36 (.agg #[.int .u64 (xa : Int), .int .u64 (xb : Int)]) [2, 5, 8, 9, 10, 11, 12, 13, 14, 15, 16, 17, 18, 19, 20, 21, 22] rfl rfl (by kernel_rfl) (by kernel_rfl) (by kernel_rfl) (by kernel_rfl) (by kernel_rfl) (by kernel_rfl) (fun _ _ _ h => h) rfl (fun w hSw => by exact exec_load_row 26 (.tmp 9) rfl _ rfl 26 _ _ _ (D9.out _ hSw) Try.underlying26 (hi26 _ _)) hS ?_
        try simp only [List.setIfInBounds_toArray, List.set_cons_zero, List.set_cons_succ]
        refine take_p 1 37 (.int .i64 (k : Int)) rfl rfl (by kernel_rfl) (by kernel_rfl) (by kernel_rfl) (fun _ _ _ h => h) rfl (fun w => by go_simp) ?_
        try simp only [List.setIfInBounds_toArray, List.set_cons_zero, List.set_cons_succ]
        refine take_f 3 39 (.agg #[.int .u64 (a : Int), .int .u64 (b : Int)]) [5, 8, 9, 10, 11, 12, 13, 14, 15, 16, 17, 18, 19, 20, 21, 22] rfl rfl (by kernel_rfl) (by kernel_rfl) (by kernel_rfl) (by kernel_rfl) (by kernel_rfl) (by kernel_rfl) (fun _ _ _ h => h) rfl (fun w hSw => by exact exec_load_row 26 (.tmp 4) rfl _ rfl 26 _ _ _ (D0.out _ hSw) Try.underlying26 (hi26 _ _)) hS ?_
        try simp only [List.setIfInBounds_toArray, List.set_cons_zero, List.set_cons_succ]
        refine take_p 4 40 (.int .i64 (k : Int)) rfl rfl (by kernel_rfl) (by kernel_rfl) (by kernel_rfl) (fun _ _ _ h => h) rfl (fun w => by go_simp) ?_
        try simp only [List.setIfInBounds_toArray, List.set_cons_zero, List.set_cons_succ]
        refine take_f 6 42 (.agg #[.int .u64 (c : Int), .int .u64 (d : Int)]) [8, 9, 10, 11, 12, 13, 14, 15, 16, 17, 18, 19, 20, 21, 22] rfl rfl (by kernel_rfl) (by kernel_rfl) (by kernel_rfl) (by kernel_rfl) (by kernel_rfl) (by kernel_rfl) (fun _ _ _ h => h) rfl (fun w hSw => by exact exec_load_row 26 (.tmp 5) rfl _ rfl 26 _ _ _ (D1.out _ hSw) Try.underlying26 (hi26 _ _)) hS ?_
        try simp only [List.setIfInBounds_toArray, List.set_cons_zero, List.set_cons_succ]
        refine take_p 7 43 (.int .i64 (k : Int)) rfl rfl (by kernel_rfl) (by kernel_rfl) (by kernel_rfl) (fun _ _ _ h => h) rfl (fun w => by go_simp) ?_
        try simp only [List.setIfInBounds_toArray, List.set_cons_zero, List.set_cons_succ]
        have hS0 := hS
        clear hS
        refine ready_f 2 (o := { dst := some 38, op := Op.call { callee := Callee.value (Operand.func 17), args := #[Operand.tmp 36, Operand.tmp 37], argTypes := #[26, 3] }, type := 4, pos := "law.go:54", after := #[{ on := 0, ground := Ground.data }, { on := 1, ground := Ground.data }], guard := none }) (by kernel_rfl) rfl (fun K hK => ?_)
        go_simp
        refine (kX _).out.mono ?_
        rintro e v1 ⟨rfl, hb1⟩
        have hS1 := hS0.trans (hb1.mono hS0.size)
        refine hK.out _ _ (fun _ _ => hS1) ?_
        clear hK K
        try simp only [Act.put, List.setIfInBounds_toArray, List.set_cons_zero, List.set_cons_succ]
        clear hb1 hS0
        refine ready_f 5 (o := { dst := some 41, op := Op.call { callee := Callee.value (Operand.func 17), args := #[Operand.tmp 39, Operand.tmp 40], argTypes := #[26, 3] }, type := 4, pos := "law.go:54", after := #[{ on := 3, ground := Ground.data }, { on := 4, ground := Ground.data }, { on := 2, ground := Ground.chain }], guard := none }) (by kernel_rfl) rfl (fun K hK => ?_)
        go_simp
        refine (kQ _).out.mono ?_
        rintro e v2 ⟨rfl, hb2⟩
        have hS2 := hS1.trans (hb2.mono hS1.size)
        refine hK.out _ _ (fun _ _ => hS2) ?_
        clear hK K
        try simp only [Act.put, List.setIfInBounds_toArray, List.set_cons_zero, List.set_cons_succ]
        clear hb2 hS1
        refine ready_f 8 (o := { dst := some 44, op := Op.call { callee := Callee.value (Operand.func 17), args := #[Operand.tmp 42, Operand.tmp 43], argTypes := #[26, 3] }, type := 4, pos := "law.go:54", after := #[{ on := 6, ground := Ground.data }, { on := 7, ground := Ground.data }, { on := 5, ground := Ground.chain }], guard := none }) (by kernel_rfl) rfl (fun K hK => ?_)
        go_simp
        refine (kC _).out.mono ?_
        rintro e v3 ⟨rfl, hb3⟩
        have hS3 := hS2.trans (hb3.mono hS2.size)
        refine hK.out _ _ (fun _ _ => hS3) ?_
        clear hK K
        try simp only [Act.put, List.setIfInBounds_toArray, List.set_cons_zero, List.set_cons_succ]
        clear hb3 hS2
        have hS := hS3
        refine take_p 9 45 (.bool (q != r)) rfl rfl (by kernel_rfl) (by kernel_rfl) (by kernel_rfl) (fun _ _ _ h => h) rfl (fun w => by go_simp; cases q <;> cases r <;> rfl) ?_
        try simp only [List.setIfInBounds_toArray, List.set_cons_zero, List.set_cons_succ]
        refine take_p 10 46 (.bool false) rfl rfl (by kernel_rfl) (by kernel_rfl) (by kernel_rfl) (fun _ _ _ h => h) rfl (fun w => by go_simp) ?_
        try simp only [List.setIfInBounds_toArray, List.set_cons_zero, List.set_cons_succ]
        refine take_p 11 47 (.bool false) rfl rfl (by kernel_rfl) (by kernel_rfl) (by kernel_rfl) (fun _ _ _ h => h) rfl (fun w => by go_simp) ?_
        try simp only [List.setIfInBounds_toArray, List.set_cons_zero, List.set_cons_succ]
        refine take_f 12 48 (.agg #[.int .u64 (ya : Int), .int .u64 (yb : Int)]) [14, 16, 17, 18, 19, 20, 21, 22] rfl rfl (by kernel_rfl) (by kernel_rfl) (by kernel_rfl) (by kernel_rfl) (by kernel_rfl) (by kernel_rfl) (fun _ _ _ h => h) rfl (fun w hSw => by exact exec_load_row 26 (.tmp 10) rfl _ rfl 26 _ _ _ (D10.out _ hSw) Try.underlying26 (hi26 _ _)) hS ?_
        try simp only [List.setIfInBounds_toArray, List.set_cons_zero, List.set_cons_succ]
        refine take_p 13 49 (.int .i64 (k : Int)) rfl rfl (by kernel_rfl) (by kernel_rfl) (by kernel_rfl) (fun _ _ _ h => h) rfl (fun w => by go_simp) ?_
        try simp only [List.setIfInBounds_toArray, List.set_cons_zero, List.set_cons_succ]
        refine take_p 15 51 (.bool true) rfl rfl (by kernel_rfl) (by kernel_rfl) (by kernel_rfl) (fun _ _ _ h => h) rfl (fun w => by go_simp) ?_
        try simp only [List.setIfInBounds_toArray, List.set_cons_zero, List.set_cons_succ]
        clear hS
        refine ready_f 14 (o := { dst := some 50, op := Op.call { callee := Callee.value (Operand.func 17), args := #[Operand.tmp 48, Operand.tmp 49], argTypes := #[26, 3] }, type := 4, pos := "law.go:54", after := #[{ on := 12, ground := Ground.data }, { on := 13, ground := Ground.data }, { on := 11, ground := Ground.chain }, { on := 11, ground := Ground.guard }], guard := some (11, false) }) (by kernel_rfl) rfl (fun K hK => ?_)
        go_simp
        refine (kW _).out.mono ?_
        rintro e v4 ⟨rfl, hb4⟩
        have hS4 := hS3.trans (hb4.mono hS3.size)
        refine hK.out _ _ (fun _ _ => hS4) ?_
        clear hK K
        try simp only [Act.put, List.setIfInBounds_toArray, List.set_cons_zero, List.set_cons_succ]
        clear hb4 hS3
        have hS := hS4
        refine take_p 16 52 (.bool true) rfl rfl (by kernel_rfl) (by kernel_rfl) (by kernel_rfl) (fun _ _ _ h => h) rfl (fun w => by go_simp) ?_
        try simp only [List.setIfInBounds_toArray, List.set_cons_zero, List.set_cons_succ]
        refine take_f 17 53 (.agg #[.int .u64 (a : Int), .int .u64 (b : Int)]) [19, 20, 21, 22] rfl rfl (by kernel_rfl) (by kernel_rfl) (by kernel_rfl) (by kernel_rfl) (by kernel_rfl) (by kernel_rfl) (fun _ _ _ h => h) rfl (fun w hSw => by exact exec_load_row 26 (.tmp 4) rfl _ rfl 26 _ _ _ (D0.out _ hSw) Try.underlying26 (hi26 _ _)) hS ?_
        try simp only [List.setIfInBounds_toArray, List.set_cons_zero, List.set_cons_succ]
        refine take_p 18 54 (.int .i64 (k : Int)) rfl rfl (by kernel_rfl) (by kernel_rfl) (by kernel_rfl) (fun _ _ _ h => h) rfl (fun w => by go_simp) ?_
        try simp only [List.setIfInBounds_toArray, List.set_cons_zero, List.set_cons_succ]
        clear hS
        refine ready_f 19 (o := { dst := some 55, op := Op.call { callee := Callee.value (Operand.func 17), args := #[Operand.tmp 53, Operand.tmp 54], argTypes := #[26, 3] }, type := 4, pos := "law.go:54", after := #[{ on := 17, ground := Ground.data }, { on := 18, ground := Ground.data }, { on := 16, ground := Ground.chain }, { on := 16, ground := Ground.guard }], guard := some (16, true) }) (by kernel_rfl) rfl (fun K hK => ?_)
        go_simp
        refine (kQ _).out.mono ?_
        rintro e v5 ⟨rfl, hb5⟩
        have hS5 := hS4.trans (hb5.mono hS4.size)
        refine hK.out _ _ (fun _ _ => hS5) ?_
        clear hK K
        try simp only [Act.put, List.setIfInBounds_toArray, List.set_cons_zero, List.set_cons_succ]
        clear hb5 hS4
        refine take_p 20 56 (.bool q) rfl rfl (by kernel_rfl) (by kernel_rfl) (by kernel_rfl) (fun _ _ _ h => h) rfl (fun w => by go_simp) ?_
        try simp only [List.setIfInBounds_toArray, List.set_cons_zero, List.set_cons_succ]
        refine take_p 21 57 (.bool false) rfl rfl (by kernel_rfl) (by kernel_rfl) (by kernel_rfl) (fun _ _ _ h => h) rfl (fun w => by go_simp) ?_
        try simp only [List.setIfInBounds_toArray, List.set_cons_zero, List.set_cons_succ]
        refine take_p 22 58 (.bool false) rfl rfl (by kernel_rfl) (by kernel_rfl) (by kernel_rfl) (fun _ _ _ h => h) rfl (fun w => by go_simp) ?_
        try simp only [List.setIfInBounds_toArray, List.set_cons_zero, List.set_cons_succ]
        refine done_f (by kernel_rfl) ?_ _
        have HS := hide1 hS5
        clear hS5
        go_wp2
        go_roundw
        case rel => exact ⟨k + 1, by omega, by go_num, HS.out⟩
        case measure => simp [intOf]; omega
      | false =>
        rw [Bool.false_and] at kW
        go_upto_region 7 with (fail)
        refine region_f (F := []) (S := fun w' => Below Y.heap.size Y w') (by kernel_rfl) HZ.out.drew (fun hS => ?_)
        refine take_f 0 36 (.agg #[.int .u64 (xa : Int), .int .u64 (xb : Int)]) [2, 5, 8, 9, 10, 11, 12, 13, 14, 15, 16, 17, 18, 19, 20, 21, 22] rfl rfl (by kernel_rfl) (by kernel_rfl) (by kernel_rfl) (by kernel_rfl) (by kernel_rfl) (by kernel_rfl) (fun _ _ _ h => h) rfl (fun w hSw => by exact exec_load_row 26 (.tmp 9) rfl _ rfl 26 _ _ _ (D9.out _ hSw) Try.underlying26 (hi26 _ _)) hS ?_
        try simp only [List.setIfInBounds_toArray, List.set_cons_zero, List.set_cons_succ]
        refine take_p 1 37 (.int .i64 (k : Int)) rfl rfl (by kernel_rfl) (by kernel_rfl) (by kernel_rfl) (fun _ _ _ h => h) rfl (fun w => by go_simp) ?_
        try simp only [List.setIfInBounds_toArray, List.set_cons_zero, List.set_cons_succ]
        refine take_f 3 39 (.agg #[.int .u64 (a : Int), .int .u64 (b : Int)]) [5, 8, 9, 10, 11, 12, 13, 14, 15, 16, 17, 18, 19, 20, 21, 22] rfl rfl (by kernel_rfl) (by kernel_rfl) (by kernel_rfl) (by kernel_rfl) (by kernel_rfl) (by kernel_rfl) (fun _ _ _ h => h) rfl (fun w hSw => by exact exec_load_row 26 (.tmp 4) rfl _ rfl 26 _ _ _ (D0.out _ hSw) Try.underlying26 (hi26 _ _)) hS ?_
        try simp only [List.setIfInBounds_toArray, List.set_cons_zero, List.set_cons_succ]
        refine take_p 4 40 (.int .i64 (k : Int)) rfl rfl (by kernel_rfl) (by kernel_rfl) (by kernel_rfl) (fun _ _ _ h => h) rfl (fun w => by go_simp) ?_
        try simp only [List.setIfInBounds_toArray, List.set_cons_zero, List.set_cons_succ]
        refine take_f 6 42 (.agg #[.int .u64 (c : Int), .int .u64 (d : Int)]) [8, 9, 10, 11, 12, 13, 14, 15, 16, 17, 18, 19, 20, 21, 22] rfl rfl (by kernel_rfl) (by kernel_rfl) (by kernel_rfl) (by kernel_rfl) (by kernel_rfl) (by kernel_rfl) (fun _ _ _ h => h) rfl (fun w hSw => by exact exec_load_row 26 (.tmp 5) rfl _ rfl 26 _ _ _ (D1.out _ hSw) Try.underlying26 (hi26 _ _)) hS ?_
        try simp only [List.setIfInBounds_toArray, List.set_cons_zero, List.set_cons_succ]
        refine take_p 7 43 (.int .i64 (k : Int)) rfl rfl (by kernel_rfl) (by kernel_rfl) (by kernel_rfl) (fun _ _ _ h => h) rfl (fun w => by go_simp) ?_
        try simp only [List.setIfInBounds_toArray, List.set_cons_zero, List.set_cons_succ]
        have hS0 := hS
        clear hS
        refine ready_f 2 (o := { dst := some 38, op := Op.call { callee := Callee.value (Operand.func 17), args := #[Operand.tmp 36, Operand.tmp 37], argTypes := #[26, 3] }, type := 4, pos := "law.go:54", after := #[{ on := 0, ground := Ground.data }, { on := 1, ground := Ground.data }], guard := none }) (by kernel_rfl) rfl (fun K hK => ?_)
        go_simp
        refine (kX _).out.mono ?_
        rintro e v1 ⟨rfl, hb1⟩
        have hS1 := hS0.trans (hb1.mono hS0.size)
        refine hK.out _ _ (fun _ _ => hS1) ?_
        clear hK K
        try simp only [Act.put, List.setIfInBounds_toArray, List.set_cons_zero, List.set_cons_succ]
        clear hb1 hS0
        refine ready_f 5 (o := { dst := some 41, op := Op.call { callee := Callee.value (Operand.func 17), args := #[Operand.tmp 39, Operand.tmp 40], argTypes := #[26, 3] }, type := 4, pos := "law.go:54", after := #[{ on := 3, ground := Ground.data }, { on := 4, ground := Ground.data }, { on := 2, ground := Ground.chain }], guard := none }) (by kernel_rfl) rfl (fun K hK => ?_)
        go_simp
        refine (kQ _).out.mono ?_
        rintro e v2 ⟨rfl, hb2⟩
        have hS2 := hS1.trans (hb2.mono hS1.size)
        refine hK.out _ _ (fun _ _ => hS2) ?_
        clear hK K
        try simp only [Act.put, List.setIfInBounds_toArray, List.set_cons_zero, List.set_cons_succ]
        clear hb2 hS1
        refine ready_f 8 (o := { dst := some 44, op := Op.call { callee := Callee.value (Operand.func 17), args := #[Operand.tmp 42, Operand.tmp 43], argTypes := #[26, 3] }, type := 4, pos := "law.go:54", after := #[{ on := 6, ground := Ground.data }, { on := 7, ground := Ground.data }, { on := 5, ground := Ground.chain }], guard := none }) (by kernel_rfl) rfl (fun K hK => ?_)
        go_simp
        refine (kC _).out.mono ?_
        rintro e v3 ⟨rfl, hb3⟩
        have hS3 := hS2.trans (hb3.mono hS2.size)
        refine hK.out _ _ (fun _ _ => hS3) ?_
        clear hK K
        try simp only [Act.put, List.setIfInBounds_toArray, List.set_cons_zero, List.set_cons_succ]
        clear hb3 hS2
        have hS := hS3
        refine take_p 9 45 (.bool (q != r)) rfl rfl (by kernel_rfl) (by kernel_rfl) (by kernel_rfl) (fun _ _ _ h => h) rfl (fun w => by go_simp; cases q <;> cases r <;> rfl) ?_
        try simp only [List.setIfInBounds_toArray, List.set_cons_zero, List.set_cons_succ]
        refine take_p 10 46 (.bool false) rfl rfl (by kernel_rfl) (by kernel_rfl) (by kernel_rfl) (fun _ _ _ h => h) rfl (fun w => by go_simp) ?_
        try simp only [List.setIfInBounds_toArray, List.set_cons_zero, List.set_cons_succ]
        refine take_p 11 47 (.bool false) rfl rfl (by kernel_rfl) (by kernel_rfl) (by kernel_rfl) (fun _ _ _ h => h) rfl (fun w => by go_simp) ?_
        try simp only [List.setIfInBounds_toArray, List.set_cons_zero, List.set_cons_succ]
        refine take_f 12 48 (.agg #[.int .u64 (ya : Int), .int .u64 (yb : Int)]) [14, 16, 17, 18, 19, 20, 21, 22] rfl rfl (by kernel_rfl) (by kernel_rfl) (by kernel_rfl) (by kernel_rfl) (by kernel_rfl) (by kernel_rfl) (fun _ _ _ h => h) rfl (fun w hSw => by exact exec_load_row 26 (.tmp 10) rfl _ rfl 26 _ _ _ (D10.out _ hSw) Try.underlying26 (hi26 _ _)) hS ?_
        try simp only [List.setIfInBounds_toArray, List.set_cons_zero, List.set_cons_succ]
        refine take_p 13 49 (.int .i64 (k : Int)) rfl rfl (by kernel_rfl) (by kernel_rfl) (by kernel_rfl) (fun _ _ _ h => h) rfl (fun w => by go_simp) ?_
        try simp only [List.setIfInBounds_toArray, List.set_cons_zero, List.set_cons_succ]
        refine take_p 15 51 (.bool false) rfl rfl (by kernel_rfl) (by kernel_rfl) (by kernel_rfl) (fun _ _ _ h => h) rfl (fun w => by go_simp) ?_
        try simp only [List.setIfInBounds_toArray, List.set_cons_zero, List.set_cons_succ]
        clear hS
        refine ready_f 14 (o := { dst := some 50, op := Op.call { callee := Callee.value (Operand.func 17), args := #[Operand.tmp 48, Operand.tmp 49], argTypes := #[26, 3] }, type := 4, pos := "law.go:54", after := #[{ on := 12, ground := Ground.data }, { on := 13, ground := Ground.data }, { on := 11, ground := Ground.chain }, { on := 11, ground := Ground.guard }], guard := some (11, false) }) (by kernel_rfl) rfl (fun K hK => ?_)
        go_simp
        refine (kW _).out.mono ?_
        rintro e v4 ⟨rfl, hb4⟩
        have hS4 := hS3.trans (hb4.mono hS3.size)
        refine hK.out _ _ (fun _ _ => hS4) ?_
        clear hK K
        try simp only [Act.put, List.setIfInBounds_toArray, List.set_cons_zero, List.set_cons_succ]
        clear hb4 hS3
        have hS := hS4
        clear hS
        refine take_p 16 52 (.bool false) rfl rfl (by kernel_rfl) (by kernel_rfl) (by kernel_rfl) (fun _ _ _ h => h) rfl (fun w => by go_simp) ?_
        try simp only [List.setIfInBounds_toArray, List.set_cons_zero, List.set_cons_succ]
        refine skip_p 17 53 rfl rfl (by kernel_rfl) (by kernel_rfl) (by kernel_rfl) (fun _ _ _ h => h) rfl ?_
        try simp only [List.setIfInBounds_toArray, List.set_cons_zero, List.set_cons_succ]
        refine skip_p 18 54 rfl rfl (by kernel_rfl) (by kernel_rfl) (by kernel_rfl) (fun _ _ _ h => h) rfl ?_
        try simp only [List.setIfInBounds_toArray, List.set_cons_zero, List.set_cons_succ]
        refine skip_p 19 55 rfl rfl (by kernel_rfl) (by kernel_rfl) (by kernel_rfl) (fun _ _ _ h => h) rfl ?_
        try simp only [List.setIfInBounds_toArray, List.set_cons_zero, List.set_cons_succ]
        refine take_p 20 56 (.bool false) rfl rfl (by kernel_rfl) (by kernel_rfl) (by kernel_rfl) (fun _ _ _ h => h) rfl (fun w => by go_simp) ?_
        try simp only [List.setIfInBounds_toArray, List.set_cons_zero, List.set_cons_succ]
        refine take_p 21 57 (.bool false) rfl rfl (by kernel_rfl) (by kernel_rfl) (by kernel_rfl) (fun _ _ _ h => h) rfl (fun w => by go_simp) ?_
        try simp only [List.setIfInBounds_toArray, List.set_cons_zero, List.set_cons_succ]
        refine take_p 22 58 (.bool false) rfl rfl (by kernel_rfl) (by kernel_rfl) (by kernel_rfl) (fun _ _ _ h => h) rfl (fun w => by go_simp) ?_
        try simp only [List.setIfInBounds_toArray, List.set_cons_zero, List.set_cons_succ]
        refine done_f (by kernel_rfl) ?_ _
        have HS := hide1 hS4
        clear hS4
        go_wp2
        go_roundw
        case rel => exact ⟨k + 1, by omega, by go_num, HS.out⟩
        case measure => simp [intOf]; omega
    · obtain rfl : k = 128 := by omega
      have HZ := hide1 (YB.out.trans (hbe.mono YB.out.size))
      clear hbe
      go_wp2_with (go_at_call 10; refine (kA _).out.mono ?_; rintro e w1 ⟨rfl, hb1⟩)
      go_ret
      exact ⟨rfl, HZ.out.trans (hb1.mono HZ.out.size)⟩
end Go.Proofs.Ytpigbhmamaghgaa
