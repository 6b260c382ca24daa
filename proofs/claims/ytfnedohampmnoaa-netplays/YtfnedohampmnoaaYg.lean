/- The document's network: what each call answers where something is wrong. -/
import Derived.Test.YtfnedohampmnoaaYe
namespace Go.Proofs.Ytfnedohampmnoaa
open Go.RowKit
set_option maxRecDepth 100000
attribute [local go_sem] not_any

theorem two_new (w : World) (a b : Obj) : ((w.alloc a).alloc b).heap[w.heap.size]? = some a ∧ ((w.alloc a).alloc b).heap[w.heap.size + 1]? = some b :=
  ⟨by rw [Below.heap_alloc _ _ _ (by simp), heap_alloc_new], alloc2 w a b⟩
theorem below_setRow {B : Nat} {w w' : World} {g : Nat} (h : Below B w w') (hg : B ≤ g) (cs : Array Value) : Below B w (w'.setRow g cs) :=
  h.trans ⟨rfl, rfl, rfl, by simp, fun k hk => setRow_other _ _ _ _ (by omega)⟩
theorem results_three {fn : Func} {p u z : Tmp} {ty : TypeId} (h : fn.results = #[.cell p ty, .tmp u, .tmp z]) (tmps : Array Value) (P : Program) (w : World) :
    (results fn tmps).run P w =
      ((asAddr (tmps.getD p undef)).run P w).andThen fun a w1 => ((loadVar ty a).run P w1).andThen fun v w2 => .ok (.tuple #[v, tmps.getD u undef, tmps.getD z undef]) w2 := by
  simp only [results, h]
  simp [Sem.run_bind, Result.andThen]
theorem ret_n3 {fn : Func} {p u z : Tmp} (h : fn.results = #[.cell p 27, .tmp u, .tmp z]) {R : Ending → World → Prop} {a : Act} {w : World} (g : Nat) (x y v v2 : Value) (hp : a.tmps.getD p undef = .pointer (some ⟨g, 0, none⟩))
    (hu : a.tmps.getD u undef = v) (hz : a.tmps.getD z undef = v2) (hg : w.heap[g]? = some (.cells #[x, y] 27 (0, 0))) (hd : a.defers = []) (hR : R (.returned (.tuple #[.agg #[x, y], v, v2])) w) : bodyPost Try.prog fn R .ret a w := by
  refine bodyPost_ret_by (v := .tuple #[.agg #[x, y], v, v2]) ?_ hd hR
  have hl := run_loadVar_row (P := Try.prog) w g 27 27 #[x, y] (0, 0) _ hg Try.underlying27 rfl (by kernel_rfl)
  rw [results_three h, hp, hu, hz]
  simp [asAddr, hl, Result.andThen]

set_option maxHeartbeats 1000000 in
theorem rdouble_fail {N : Nat → List ByteArray} (a0 a1 : Option Addr) (c0 c1 : Nat) (q i : Int) (w : World) (hc : plc N q i ≠ 0) :
    Calls Try.prog 23 #[.agg #[.slice a0 (N 0).length c0, .slice a1 (N 1).length c1], .int .i64 q, .int .i64 i] w fun e w' => e = .returned (.tuple #[.agg #[.slice a0 (N 0).length c0, .slice a1 (N 1).length c1], .int .i64 (plc N q i)]) ∧ Below w.heap.size w w' := by
  have kW := fun w => hide1 (wrong_any (N := N) a0 a1 c0 c1 q i w)
  have hcb : (plc N q i != 0) = true := by simpa using hc
  generalize plc N q i = c at *
  generalize (N 0).length = n0 at *
  generalize (N 1).length = n1 at *
  clear hc
  go_enter Try.func23, Try.ntmps23
  go_wp2_with fail
  have h2 := two_new w (.cells #[.slice a0 n0 c0, .slice a1 n1 c1] 27) (.cells #[.slice none 0 0, .slice none 0 0] 27)
  have hB := below2 (w := w) (.cells #[.slice a0 n0 c0, .slice a1 n1 c1] 27) (.cells #[.slice none 0 0, .slice none 0 0] 27)
  have H2 := hide1 h2
  have HB := hide1 hB
  clear h2 hB
  generalize (w.alloc _).alloc _ = W1 at H2 HB ⊢
  obtain ⟨b0, hb0⟩ : ∃ b0, w.heap.size = b0 := ⟨_, rfl⟩
  obtain ⟨b1, hb1⟩ : ∃ b1, w.heap.size + 1 = b1 := ⟨_, rfl⟩
  have HS : Hid (w.heap.size = b0 ∧ b0 + 1 = b1) := ⟨hb0, by omega⟩
  rw [hb1, hb0] at H2
  rw [hb1, hb0]
  clear hb0 hb1
  refine ((kW _).out).mono ?_
  rintro e W2 ⟨rfl, hbb⟩
  have R0' := hide1 ((hbb.block b0 (lt_heap H2.out.1)).trans H2.out.1)
  have R1' := hide1 ((hbb.block b1 (lt_heap H2.out.2)).trans H2.out.2)
  have B2' : Hid (Below w.heap.size w W2) := HB.out.trans (hbb.mono HB.out.size)
  clear hbb H2 HB
  have R0 := R0'
  have R1 := R1'
  have B2 := B2'
  clear R0' R1' B2'
  obtain ⟨d0, d1, _, _, _⟩ := box2 R0.out
  go_upto_region 2 with (fail)
  clear d0 d1
  refine region_f (F := [5]) (S := fun W => W.cell? ⟨b0, 0, none⟩ = some (.slice a0 n0 c0) ∧ W.cell? ⟨b0, 1, none⟩ = some (.slice a1 n1 c1) ∧ b0 < W.heap.size) (by kernel_rfl) ⟨(box2 R0.out).1, (box2 R0.out).2.1, (box2 R0.out).2.2.2.2⟩ (fun hS => ?_)
  generalize hU : World.drew W2 = U at hS ⊢
  have R0 : Hid (U.heap[b0]? = some (.cells #[.slice a0 n0 c0, .slice a1 n1 c1] 27 (0, 0))) := by rw [← hU]; exact R0.out
  have R1 : Hid (U.heap[b1]? = some (.cells #[.slice none 0 0, .slice none 0 0] 27 (0, 0))) := by rw [← hU]; exact R1.out
  have B2 : Hid (Below w.heap.size w U) := by rw [← hU]; exact B2.out.drew
  clear hU
  refine take_f 0 13 (.agg #[.slice a0 n0 c0, .slice a1 n1 c1]) [5, 6] rfl rfl (by kernel_rfl) (by kernel_rfl) (by kernel_rfl) (by kernel_rfl) (by kernel_rfl) (by kernel_rfl) (fun _ _ _ h => h) rfl (fun w hSw => by obtain ⟨g0, g1, g2⟩ := hSw; go_simp) hS ?_
  try simp only [List.setIfInBounds_toArray, List.set_cons_zero, List.set_cons_succ]
  refine take_f 1 14 (.agg #[.slice a0 n0 c0, .slice a1 n1 c1]) [4, 5, 6] rfl rfl (by kernel_rfl) (by kernel_rfl) (by kernel_rfl) (by kernel_rfl) (by kernel_rfl) (by kernel_rfl) (fun _ _ _ h => h) rfl (fun w hSw => by obtain ⟨g0, g1, g2⟩ := hSw; go_simp) hS ?_
  try simp only [List.setIfInBounds_toArray, List.set_cons_zero, List.set_cons_succ]
  refine take_p 2 15 (.int .i64 q) rfl rfl (by kernel_rfl) (by kernel_rfl) (by kernel_rfl) (fun _ _ _ h => h) rfl (fun w => by go_simp) ?_
  try simp only [List.setIfInBounds_toArray, List.set_cons_zero, List.set_cons_succ]
  refine take_p 3 16 (.int .i64 i) rfl rfl (by kernel_rfl) (by kernel_rfl) (by kernel_rfl) (fun _ _ _ h => h) rfl (fun w => by go_simp) ?_
  try simp only [List.setIfInBounds_toArray, List.set_cons_zero, List.set_cons_succ]
  refine ready_f 4 (o := { dst := some 17, op := Op.call { callee := Callee.value (Operand.func 34), args := #[Operand.tmp 14, Operand.tmp 15, Operand.tmp 16], argTypes := #[27, 3, 3] }, type := 3, pos := "ref.go:83", after := #[{ on := 1, ground := Ground.data }, { on := 2, ground := Ground.data }, { on := 3, ground := Ground.data }], guard := none }) (by kernel_rfl) rfl (fun K hK => ?_)
  go_simp
  refine (kW _).out.mono ?_
  rintro e U3 ⟨rfl, hb3⟩
  refine hK.out _ _ (fun _ h => ⟨(hb3.cell (p := ⟨b0, 0, none⟩) h.2.2).trans h.1, (hb3.cell (p := ⟨b0, 1, none⟩) h.2.2).trans h.2.1, Nat.lt_of_lt_of_le h.2.2 hb3.size⟩) ?_
  clear hK K
  try simp only [Act.put, List.setIfInBounds_toArray, List.set_cons_zero, List.set_cons_succ]
  have R1 := hide1 ((hb3.block b1 (lt_heap R1.out)).trans R1.out)
  have B3 : Hid (Below w.heap.size w U3) := B2.out.trans (hb3.mono B2.out.size)
  clear hb3 hS
  refine ready_f 5 (o := { dst := none, op := Op.store 27 (Operand.tmp 6) (Operand.tmp 13), type := 0, pos := "ref.go:83", after := #[{ on := 0, ground := Ground.data }, { on := 4, ground := Ground.chain }, { on := 0, ground := Ground.phase }, { on := 1, ground := Ground.textOnly Departure.lateStores }, { on := 2, ground := Ground.textOnly Departure.lateStores }, { on := 3, ground := Ground.textOnly Departure.lateStores }, { on := 4, ground := Ground.textOnly Departure.lateStoresUnsure }], guard := none }) (by kernel_rfl) rfl (fun K hK => ?_)
  rw [if_pos (by rfl)]
  refine wp_store_row 27 _ _ rfl b1 _ rfl rfl 27 _ R1.out (by kernel_rfl) rfl (by kernel_rfl) ?_
  refine hK.out _ _ (fun h => absurd (by decide) h) ?_
  clear hK K
  refine take_p 6 7 (.int .i64 c) rfl rfl (by kernel_rfl) (by kernel_rfl) (by kernel_rfl) (fun _ _ _ h => h) rfl (fun w => by go_simp) ?_
  try simp only [List.setIfInBounds_toArray, List.set_cons_zero, List.set_cons_succ]
  refine done_f (by kernel_rfl) ?_ _
  go_wp2
  exact ret_n2 Try.results23 b1 _ _ _ rfl rfl (setRow_heap _ b1 _ _ _ _ R1.out) rfl ⟨rfl, below_setRow B3.out (by have := HS.out; omega) _⟩

set_option maxHeartbeats 1000000 in
theorem rforge_fail {N : Nat → List ByteArray} (a0 a1 : Option Addr) (c0 c1 : Nat) (q i : Int) (s : ByteArray) (w : World) (hc : plc N q i ≠ 0) :
    Calls Try.prog 25 #[.agg #[.slice a0 (N 0).length c0, .slice a1 (N 1).length c1], .int .i64 q, .int .i64 i, .string s] w fun e w' => e = .returned (.tuple #[.agg #[.slice a0 (N 0).length c0, .slice a1 (N 1).length c1], .int .i64 (plc N q i)]) ∧ Below w.heap.size w w' := by
  have kW := fun w => hide1 (wrong_any (N := N) a0 a1 c0 c1 q i w)
  have hcb : (plc N q i != 0) = true := by simpa using hc
  generalize plc N q i = c at *
  generalize (N 0).length = n0 at *
  generalize (N 1).length = n1 at *
  clear hc
  go_enter Try.func25, Try.ntmps25
  go_wp2_with fail
  have h2 := two_new w (.cells #[.slice a0 n0 c0, .slice a1 n1 c1] 27) (.cells #[.slice none 0 0, .slice none 0 0] 27)
  have hB := below2 (w := w) (.cells #[.slice a0 n0 c0, .slice a1 n1 c1] 27) (.cells #[.slice none 0 0, .slice none 0 0] 27)
  have H2 := hide1 h2
  have HB := hide1 hB
  clear h2 hB
  generalize (w.alloc _).alloc _ = W1 at H2 HB ⊢
  obtain ⟨b0, hb0⟩ : ∃ b0, w.heap.size = b0 := ⟨_, rfl⟩
  obtain ⟨b1, hb1⟩ : ∃ b1, w.heap.size + 1 = b1 := ⟨_, rfl⟩
  have HS : Hid (w.heap.size = b0 ∧ b0 + 1 = b1) := ⟨hb0, by omega⟩
  rw [hb1, hb0] at H2
  rw [hb1, hb0]
  clear hb0 hb1
  refine ((kW _).out).mono ?_
  rintro e W2 ⟨rfl, hbb⟩
  have R0' := hide1 ((hbb.block b0 (lt_heap H2.out.1)).trans H2.out.1)
  have R1' := hide1 ((hbb.block b1 (lt_heap H2.out.2)).trans H2.out.2)
  have B2' : Hid (Below w.heap.size w W2) := HB.out.trans (hbb.mono HB.out.size)
  clear hbb H2 HB
  have R0 := R0'
  have R1 := R1'
  have B2 := B2'
  clear R0' R1' B2'
  obtain ⟨d0, d1, _, _, _⟩ := box2 R0.out
  go_upto_region 2 with (fail)
  clear d0 d1
  refine region_f (F := [5]) (S := fun W => W.cell? ⟨b0, 0, none⟩ = some (.slice a0 n0 c0) ∧ W.cell? ⟨b0, 1, none⟩ = some (.slice a1 n1 c1) ∧ b0 < W.heap.size) (by kernel_rfl) ⟨(box2 R0.out).1, (box2 R0.out).2.1, (box2 R0.out).2.2.2.2⟩ (fun hS => ?_)
  generalize hU : World.drew W2 = U at hS ⊢
  have R0 : Hid (U.heap[b0]? = some (.cells #[.slice a0 n0 c0, .slice a1 n1 c1] 27 (0, 0))) := by rw [← hU]; exact R0.out
  have R1 : Hid (U.heap[b1]? = some (.cells #[.slice none 0 0, .slice none 0 0] 27 (0, 0))) := by rw [← hU]; exact R1.out
  have B2 : Hid (Below w.heap.size w U) := by rw [← hU]; exact B2.out.drew
  clear hU
  refine take_f 0 15 (.agg #[.slice a0 n0 c0, .slice a1 n1 c1]) [5, 6] rfl rfl (by kernel_rfl) (by kernel_rfl) (by kernel_rfl) (by kernel_rfl) (by kernel_rfl) (by kernel_rfl) (fun _ _ _ h => h) rfl (fun w hSw => by obtain ⟨g0, g1, g2⟩ := hSw; go_simp) hS ?_
  try simp only [List.setIfInBounds_toArray, List.set_cons_zero, List.set_cons_succ]
  refine take_f 1 16 (.agg #[.slice a0 n0 c0, .slice a1 n1 c1]) [4, 5, 6] rfl rfl (by kernel_rfl) (by kernel_rfl) (by kernel_rfl) (by kernel_rfl) (by kernel_rfl) (by kernel_rfl) (fun _ _ _ h => h) rfl (fun w hSw => by obtain ⟨g0, g1, g2⟩ := hSw; go_simp) hS ?_
  try simp only [List.setIfInBounds_toArray, List.set_cons_zero, List.set_cons_succ]
  refine take_p 2 17 (.int .i64 q) rfl rfl (by kernel_rfl) (by kernel_rfl) (by kernel_rfl) (fun _ _ _ h => h) rfl (fun w => by go_simp) ?_
  try simp only [List.setIfInBounds_toArray, List.set_cons_zero, List.set_cons_succ]
  refine take_p 3 18 (.int .i64 i) rfl rfl (by kernel_rfl) (by kernel_rfl) (by kernel_rfl) (fun _ _ _ h => h) rfl (fun w => by go_simp) ?_
  try simp only [List.setIfInBounds_toArray, List.set_cons_zero, List.set_cons_succ]
  refine ready_f 4 (o := { dst := some 19, op := Op.call { callee := Callee.value (Operand.func 34), args := #[Operand.tmp 16, Operand.tmp 17, Operand.tmp 18], argTypes := #[27, 3, 3] }, type := 3, pos := "ref.go:103", after := #[{ on := 1, ground := Ground.data }, { on := 2, ground := Ground.data }, { on := 3, ground := Ground.data }], guard := none }) (by kernel_rfl) rfl (fun K hK => ?_)
  go_simp
  refine (kW _).out.mono ?_
  rintro e U3 ⟨rfl, hb3⟩
  refine hK.out _ _ (fun _ h => ⟨(hb3.cell (p := ⟨b0, 0, none⟩) h.2.2).trans h.1, (hb3.cell (p := ⟨b0, 1, none⟩) h.2.2).trans h.2.1, Nat.lt_of_lt_of_le h.2.2 hb3.size⟩) ?_
  clear hK K
  try simp only [Act.put, List.setIfInBounds_toArray, List.set_cons_zero, List.set_cons_succ]
  have R1 := hide1 ((hb3.block b1 (lt_heap R1.out)).trans R1.out)
  have B3 : Hid (Below w.heap.size w U3) := B2.out.trans (hb3.mono B2.out.size)
  clear hb3 hS
  refine ready_f 5 (o := { dst := none, op := Op.store 27 (Operand.tmp 8) (Operand.tmp 15), type := 0, pos := "ref.go:103", after := #[{ on := 0, ground := Ground.data }, { on := 4, ground := Ground.chain }, { on := 0, ground := Ground.phase }, { on := 1, ground := Ground.textOnly Departure.lateStores }, { on := 2, ground := Ground.textOnly Departure.lateStores }, { on := 3, ground := Ground.textOnly Departure.lateStores }, { on := 4, ground := Ground.textOnly Departure.lateStoresUnsure }], guard := none }) (by kernel_rfl) rfl (fun K hK => ?_)
  rw [if_pos (by rfl)]
  refine wp_store_row 27 _ _ rfl b1 _ rfl rfl 27 _ R1.out (by kernel_rfl) rfl (by kernel_rfl) ?_
  refine hK.out _ _ (fun h => absurd (by decide) h) ?_
  clear hK K
  refine take_p 6 9 (.int .i64 c) rfl rfl (by kernel_rfl) (by kernel_rfl) (by kernel_rfl) (fun _ _ _ h => h) rfl (fun w => by go_simp) ?_
  try simp only [List.setIfInBounds_toArray, List.set_cons_zero, List.set_cons_succ]
  refine done_f (by kernel_rfl) ?_ _
  go_wp2
  exact ret_n2 Try.results25 b1 _ _ _ rfl rfl (setRow_heap _ b1 _ _ _ _ R1.out) rfl ⟨rfl, below_setRow B3.out (by have := HS.out; omega) _⟩

set_option maxHeartbeats 1000000 in
theorem rswap_fail {N : Nat → List ByteArray} (a0 a1 : Option Addr) (c0 c1 : Nat) (q i j : Int) (w : World) (hc : plc N q i ≠ 0) :
    Calls Try.prog 24 #[.agg #[.slice a0 (N 0).length c0, .slice a1 (N 1).length c1], .int .i64 q, .int .i64 i, .int .i64 j] w fun e w' => e = .returned (.tuple #[.agg #[.slice a0 (N 0).length c0, .slice a1 (N 1).length c1], .int .i64 (plc N q i)]) ∧ Below w.heap.size w w' := by
  have kW := fun w => hide1 (wrong_any (N := N) a0 a1 c0 c1 q i w)
  have hcb : (plc N q i != 0) = true := by simpa using hc
  generalize plc N q i = c at *
  generalize (N 0).length = n0 at *
  generalize (N 1).length = n1 at *
  clear hc
  go_enter Try.func24, Try.ntmps24
  go_wp2_with fail
  have h2 := two_new w (.cells #[.slice a0 n0 c0, .slice a1 n1 c1] 27) (.cells #[.slice none 0 0, .slice none 0 0] 27)
  have hB := below2 (w := w) (.cells #[.slice a0 n0 c0, .slice a1 n1 c1] 27) (.cells #[.slice none 0 0, .slice none 0 0] 27)
  have H2 := hide1 h2
  have HB := hide1 hB
  clear h2 hB
  generalize (w.alloc _).alloc _ = W1 at H2 HB ⊢
  obtain ⟨b0, hb0⟩ : ∃ b0, w.heap.size = b0 := ⟨_, rfl⟩
  obtain ⟨b1, hb1⟩ : ∃ b1, w.heap.size + 1 = b1 := ⟨_, rfl⟩
  have HS : Hid (w.heap.size = b0 ∧ b0 + 1 = b1) := ⟨hb0, by omega⟩
  rw [hb1, hb0] at H2
  rw [hb1, hb0]
  clear hb0 hb1
  refine ((kW _).out).mono ?_
  rintro e W2 ⟨rfl, hbb⟩
  have R0' := hide1 ((hbb.block b0 (lt_heap H2.out.1)).trans H2.out.1)
  have R1' := hide1 ((hbb.block b1 (lt_heap H2.out.2)).trans H2.out.2)
  have B2' : Hid (Below w.heap.size w W2) := HB.out.trans (hbb.mono HB.out.size)
  clear hbb H2 HB
  have R0 := R0'
  have R1 := R1'
  have B2 := B2'
  clear R0' R1' B2'
  obtain ⟨d0, d1, _, _, _⟩ := box2 R0.out
  go_upto_region 2 with (fail)
  clear d0 d1
  refine region_f (F := [5]) (S := fun W => W.cell? ⟨b0, 0, none⟩ = some (.slice a0 n0 c0) ∧ W.cell? ⟨b0, 1, none⟩ = some (.slice a1 n1 c1) ∧ b0 < W.heap.size) (by kernel_rfl) ⟨(box2 R0.out).1, (box2 R0.out).2.1, (box2 R0.out).2.2.2.2⟩ (fun hS => ?_)
  generalize hU : World.drew W2 = U at hS ⊢
  have R0 : Hid (U.heap[b0]? = some (.cells #[.slice a0 n0 c0, .slice a1 n1 c1] 27 (0, 0))) := by rw [← hU]; exact R0.out
  have R1 : Hid (U.heap[b1]? = some (.cells #[.slice none 0 0, .slice none 0 0] 27 (0, 0))) := by rw [← hU]; exact R1.out
  have B2 : Hid (Below w.heap.size w U) := by rw [← hU]; exact B2.out.drew
  clear hU
  refine take_f 0 16 (.agg #[.slice a0 n0 c0, .slice a1 n1 c1]) [5, 6] rfl rfl (by kernel_rfl) (by kernel_rfl) (by kernel_rfl) (by kernel_rfl) (by kernel_rfl) (by kernel_rfl) (fun _ _ _ h => h) rfl (fun w hSw => by obtain ⟨g0, g1, g2⟩ := hSw; go_simp) hS ?_
  try simp only [List.setIfInBounds_toArray, List.set_cons_zero, List.set_cons_succ]
  refine take_f 1 17 (.agg #[.slice a0 n0 c0, .slice a1 n1 c1]) [4, 5, 6] rfl rfl (by kernel_rfl) (by kernel_rfl) (by kernel_rfl) (by kernel_rfl) (by kernel_rfl) (by kernel_rfl) (fun _ _ _ h => h) rfl (fun w hSw => by obtain ⟨g0, g1, g2⟩ := hSw; go_simp) hS ?_
  try simp only [List.setIfInBounds_toArray, List.set_cons_zero, List.set_cons_succ]
  refine take_p 2 18 (.int .i64 q) rfl rfl (by kernel_rfl) (by kernel_rfl) (by kernel_rfl) (fun _ _ _ h => h) rfl (fun w => by go_simp) ?_
  try simp only [List.setIfInBounds_toArray, List.set_cons_zero, List.set_cons_succ]
  refine take_p 3 19 (.int .i64 i) rfl rfl (by kernel_rfl) (by kernel_rfl) (by kernel_rfl) (fun _ _ _ h => h) rfl (fun w => by go_simp) ?_
  try simp only [List.setIfInBounds_toArray, List.set_cons_zero, List.set_cons_succ]
  refine ready_f 4 (o := { dst := some 20, op := Op.call { callee := Callee.value (Operand.func 34), args := #[Operand.tmp 17, Operand.tmp 18, Operand.tmp 19], argTypes := #[27, 3, 3] }, type := 3, pos := "ref.go:91", after := #[{ on := 1, ground := Ground.data }, { on := 2, ground := Ground.data }, { on := 3, ground := Ground.data }], guard := none }) (by kernel_rfl) rfl (fun K hK => ?_)
  go_simp
  refine (kW _).out.mono ?_
  rintro e U3 ⟨rfl, hb3⟩
  refine hK.out _ _ (fun _ h => ⟨(hb3.cell (p := ⟨b0, 0, none⟩) h.2.2).trans h.1, (hb3.cell (p := ⟨b0, 1, none⟩) h.2.2).trans h.2.1, Nat.lt_of_lt_of_le h.2.2 hb3.size⟩) ?_
  clear hK K
  try simp only [Act.put, List.setIfInBounds_toArray, List.set_cons_zero, List.set_cons_succ]
  have R1 := hide1 ((hb3.block b1 (lt_heap R1.out)).trans R1.out)
  have B3 : Hid (Below w.heap.size w U3) := B2.out.trans (hb3.mono B2.out.size)
  clear hb3 hS
  refine ready_f 5 (o := { dst := none, op := Op.store 27 (Operand.tmp 8) (Operand.tmp 16), type := 0, pos := "ref.go:91", after := #[{ on := 0, ground := Ground.data }, { on := 4, ground := Ground.chain }, { on := 0, ground := Ground.phase }, { on := 1, ground := Ground.textOnly Departure.lateStores }, { on := 2, ground := Ground.textOnly Departure.lateStores }, { on := 3, ground := Ground.textOnly Departure.lateStores }, { on := 4, ground := Ground.textOnly Departure.lateStoresUnsure }], guard := none }) (by kernel_rfl) rfl (fun K hK => ?_)
  rw [if_pos (by rfl)]
  refine wp_store_row 27 _ _ rfl b1 _ rfl rfl 27 _ R1.out (by kernel_rfl) rfl (by kernel_rfl) ?_
  refine hK.out _ _ (fun h => absurd (by decide) h) ?_
  clear hK K
  refine take_p 6 9 (.int .i64 c) rfl rfl (by kernel_rfl) (by kernel_rfl) (by kernel_rfl) (fun _ _ _ h => h) rfl (fun w => by go_simp) ?_
  try simp only [List.setIfInBounds_toArray, List.set_cons_zero, List.set_cons_succ]
  refine done_f (by kernel_rfl) ?_ _
  go_wp2
  exact ret_n2 Try.results24 b1 _ _ _ rfl rfl (setRow_heap _ b1 _ _ _ _ R1.out) rfl ⟨rfl, below_setRow B3.out (by have := HS.out; omega) _⟩

set_option maxHeartbeats 1000000 in
theorem rturn_fail {N : Nat → List ByteArray} (a0 a1 : Option Addr) (c0 c1 : Nat) (q i j b : Int) (w : World) (hc : plc N q i ≠ 0) :
    Calls Try.prog 26 #[.agg #[.slice a0 (N 0).length c0, .slice a1 (N 1).length c1], .int .i64 q, .int .i64 i, .int .i64 j, .int .u8 b] w fun e w' => e = .returned (.tuple #[.agg #[.slice a0 (N 0).length c0, .slice a1 (N 1).length c1], .int .i64 (plc N q i)]) ∧ Below w.heap.size w w' := by
  have kW := fun w => hide1 (wrong_any (N := N) a0 a1 c0 c1 q i w)
  have hcb : (plc N q i != 0) = true := by simpa using hc
  generalize plc N q i = c at *
  generalize (N 0).length = n0 at *
  generalize (N 1).length = n1 at *
  clear hc
  go_enter Try.func26, Try.ntmps26
  go_wp2_with fail
  have h2 := two_new w (.cells #[.slice a0 n0 c0, .slice a1 n1 c1] 27) (.cells #[.slice none 0 0, .slice none 0 0] 27)
  have hB := below2 (w := w) (.cells #[.slice a0 n0 c0, .slice a1 n1 c1] 27) (.cells #[.slice none 0 0, .slice none 0 0] 27)
  have H2 := hide1 h2
  have HB := hide1 hB
  clear h2 hB
  generalize (w.alloc _).alloc _ = W1 at H2 HB ⊢
  obtain ⟨b0, hb0⟩ : ∃ b0, w.heap.size = b0 := ⟨_, rfl⟩
  obtain ⟨b1, hb1⟩ : ∃ b1, w.heap.size + 1 = b1 := ⟨_, rfl⟩
  have HS : Hid (w.heap.size = b0 ∧ b0 + 1 = b1) := ⟨hb0, by omega⟩
  rw [hb1, hb0] at H2
  rw [hb1, hb0]
  clear hb0 hb1
  refine ((kW _).out).mono ?_
  rintro e W2 ⟨rfl, hbb⟩
  have R0' := hide1 ((hbb.block b0 (lt_heap H2.out.1)).trans H2.out.1)
  have R1' := hide1 ((hbb.block b1 (lt_heap H2.out.2)).trans H2.out.2)
  have B2' : Hid (Below w.heap.size w W2) := HB.out.trans (hbb.mono HB.out.size)
  clear hbb H2 HB
  have R0 := R0'
  have R1 := R1'
  have B2 := B2'
  clear R0' R1' B2'
  obtain ⟨d0, d1, _, _, _⟩ := box2 R0.out
  go_upto_region 2 with (fail)
  clear d0 d1
  refine region_f (F := [5]) (S := fun W => W.cell? ⟨b0, 0, none⟩ = some (.slice a0 n0 c0) ∧ W.cell? ⟨b0, 1, none⟩ = some (.slice a1 n1 c1) ∧ b0 < W.heap.size) (by kernel_rfl) ⟨(box2 R0.out).1, (box2 R0.out).2.1, (box2 R0.out).2.2.2.2⟩ (fun hS => ?_)
  generalize hU : World.drew W2 = U at hS ⊢
  have R0 : Hid (U.heap[b0]? = some (.cells #[.slice a0 n0 c0, .slice a1 n1 c1] 27 (0, 0))) := by rw [← hU]; exact R0.out
  have R1 : Hid (U.heap[b1]? = some (.cells #[.slice none 0 0, .slice none 0 0] 27 (0, 0))) := by rw [← hU]; exact R1.out
  have B2 : Hid (Below w.heap.size w U) := by rw [← hU]; exact B2.out.drew
  clear hU
  refine take_f 0 18 (.agg #[.slice a0 n0 c0, .slice a1 n1 c1]) [5, 6] rfl rfl (by kernel_rfl) (by kernel_rfl) (by kernel_rfl) (by kernel_rfl) (by kernel_rfl) (by kernel_rfl) (fun _ _ _ h => h) rfl (fun w hSw => by obtain ⟨g0, g1, g2⟩ := hSw; go_simp) hS ?_
  try simp only [List.setIfInBounds_toArray, List.set_cons_zero, List.set_cons_succ]
  refine take_f 1 19 (.agg #[.slice a0 n0 c0, .slice a1 n1 c1]) [4, 5, 6] rfl rfl (by kernel_rfl) (by kernel_rfl) (by kernel_rfl) (by kernel_rfl) (by kernel_rfl) (by kernel_rfl) (fun _ _ _ h => h) rfl (fun w hSw => by obtain ⟨g0, g1, g2⟩ := hSw; go_simp) hS ?_
  try simp only [List.setIfInBounds_toArray, List.set_cons_zero, List.set_cons_succ]
  refine take_p 2 20 (.int .i64 q) rfl rfl (by kernel_rfl) (by kernel_rfl) (by kernel_rfl) (fun _ _ _ h => h) rfl (fun w => by go_simp) ?_
  try simp only [List.setIfInBounds_toArray, List.set_cons_zero, List.set_cons_succ]
  refine take_p 3 21 (.int .i64 i) rfl rfl (by kernel_rfl) (by kernel_rfl) (by kernel_rfl) (fun _ _ _ h => h) rfl (fun w => by go_simp) ?_
  try simp only [List.setIfInBounds_toArray, List.set_cons_zero, List.set_cons_succ]
  refine ready_f 4 (o := { dst := some 22, op := Op.call { callee := Callee.value (Operand.func 34), args := #[Operand.tmp 19, Operand.tmp 20, Operand.tmp 21], argTypes := #[27, 3, 3] }, type := 3, pos := "ref.go:114", after := #[{ on := 1, ground := Ground.data }, { on := 2, ground := Ground.data }, { on := 3, ground := Ground.data }], guard := none }) (by kernel_rfl) rfl (fun K hK => ?_)
  go_simp
  refine (kW _).out.mono ?_
  rintro e U3 ⟨rfl, hb3⟩
  refine hK.out _ _ (fun _ h => ⟨(hb3.cell (p := ⟨b0, 0, none⟩) h.2.2).trans h.1, (hb3.cell (p := ⟨b0, 1, none⟩) h.2.2).trans h.2.1, Nat.lt_of_lt_of_le h.2.2 hb3.size⟩) ?_
  clear hK K
  try simp only [Act.put, List.setIfInBounds_toArray, List.set_cons_zero, List.set_cons_succ]
  have R1 := hide1 ((hb3.block b1 (lt_heap R1.out)).trans R1.out)
  have B3 : Hid (Below w.heap.size w U3) := B2.out.trans (hb3.mono B2.out.size)
  clear hb3 hS
  refine ready_f 5 (o := { dst := none, op := Op.store 27 (Operand.tmp 10) (Operand.tmp 18), type := 0, pos := "ref.go:114", after := #[{ on := 0, ground := Ground.data }, { on := 4, ground := Ground.chain }, { on := 0, ground := Ground.phase }, { on := 1, ground := Ground.textOnly Departure.lateStores }, { on := 2, ground := Ground.textOnly Departure.lateStores }, { on := 3, ground := Ground.textOnly Departure.lateStores }, { on := 4, ground := Ground.textOnly Departure.lateStoresUnsure }], guard := none }) (by kernel_rfl) rfl (fun K hK => ?_)
  rw [if_pos (by rfl)]
  refine wp_store_row 27 _ _ rfl b1 _ rfl rfl 27 _ R1.out (by kernel_rfl) rfl (by kernel_rfl) ?_
  refine hK.out _ _ (fun h => absurd (by decide) h) ?_
  clear hK K
  refine take_p 6 11 (.int .i64 c) rfl rfl (by kernel_rfl) (by kernel_rfl) (by kernel_rfl) (fun _ _ _ h => h) rfl (fun w => by go_simp) ?_
  try simp only [List.setIfInBounds_toArray, List.set_cons_zero, List.set_cons_succ]
  refine done_f (by kernel_rfl) ?_ _
  go_wp2
  exact ret_n2 Try.results26 b1 _ _ _ rfl rfl (setRow_heap _ b1 _ _ _ _ R1.out) rfl ⟨rfl, below_setRow B3.out (by have := HS.out; omega) _⟩

set_option maxHeartbeats 1000000 in
theorem rtake_fail {N : Nat → List ByteArray} (a0 a1 : Option Addr) (c0 c1 : Nat) (q i : Int) (w : World) (hc : plc N q i ≠ 0) :
    Calls Try.prog 22 #[.agg #[.slice a0 (N 0).length c0, .slice a1 (N 1).length c1], .int .i64 q, .int .i64 i] w fun e w' => e = .returned (.tuple #[.agg #[.slice a0 (N 0).length c0, .slice a1 (N 1).length c1], .string ⟨#[]⟩, .int .i64 (plc N q i)]) ∧ Below w.heap.size w w' := by
  have kW := fun w => hide1 (wrong_any (N := N) a0 a1 c0 c1 q i w)
  have hcb : (plc N q i != 0) = true := by simpa using hc
  generalize plc N q i = c at *
  generalize (N 0).length = n0 at *
  generalize (N 1).length = n1 at *
  clear hc
  go_enter Try.func22, Try.ntmps22
  go_wp2_with fail
  have h2 := two_new w (.cells #[.slice a0 n0 c0, .slice a1 n1 c1] 27) (.cells #[.slice none 0 0, .slice none 0 0] 27)
  have hB := below2 (w := w) (.cells #[.slice a0 n0 c0, .slice a1 n1 c1] 27) (.cells #[.slice none 0 0, .slice none 0 0] 27)
  have H2 := hide1 h2
  have HB := hide1 hB
  clear h2 hB
  generalize (w.alloc _).alloc _ = W1 at H2 HB ⊢
  obtain ⟨b0, hb0⟩ : ∃ b0, w.heap.size = b0 := ⟨_, rfl⟩
  obtain ⟨b1, hb1⟩ : ∃ b1, w.heap.size + 1 = b1 := ⟨_, rfl⟩
  have HS : Hid (w.heap.size = b0 ∧ b0 + 1 = b1) := ⟨hb0, by omega⟩
  rw [hb1, hb0] at H2
  rw [hb1, hb0]
  clear hb0 hb1
  refine ((kW _).out).mono ?_
  rintro e W2 ⟨rfl, hbb⟩
  have R0' := hide1 ((hbb.block b0 (lt_heap H2.out.1)).trans H2.out.1)
  have R1' := hide1 ((hbb.block b1 (lt_heap H2.out.2)).trans H2.out.2)
  have B2' : Hid (Below w.heap.size w W2) := HB.out.trans (hbb.mono HB.out.size)
  clear hbb H2 HB
  have R0 := R0'
  have R1 := R1'
  have B2 := B2'
  clear R0' R1' B2'
  obtain ⟨d0, d1, _, _, _⟩ := box2 R0.out
  go_upto_region 2 with (fail)
  clear d0 d1
  refine region_f (F := [5]) (S := fun W => W.cell? ⟨b0, 0, none⟩ = some (.slice a0 n0 c0) ∧ W.cell? ⟨b0, 1, none⟩ = some (.slice a1 n1 c1) ∧ b0 < W.heap.size) (by kernel_rfl) ⟨(box2 R0.out).1, (box2 R0.out).2.1, (box2 R0.out).2.2.2.2⟩ (fun hS => ?_)
  generalize hU : World.drew W2 = U at hS ⊢
  have R0 : Hid (U.heap[b0]? = some (.cells #[.slice a0 n0 c0, .slice a1 n1 c1] 27 (0, 0))) := by rw [← hU]; exact R0.out
  have R1 : Hid (U.heap[b1]? = some (.cells #[.slice none 0 0, .slice none 0 0] 27 (0, 0))) := by rw [← hU]; exact R1.out
  have B2 : Hid (Below w.heap.size w U) := by rw [← hU]; exact B2.out.drew
  clear hU
  refine take_f 0 16 (.agg #[.slice a0 n0 c0, .slice a1 n1 c1]) [5, 6, 7] rfl rfl (by kernel_rfl) (by kernel_rfl) (by kernel_rfl) (by kernel_rfl) (by kernel_rfl) (by kernel_rfl) (fun _ _ _ h => h) rfl (fun w hSw => by obtain ⟨g0, g1, g2⟩ := hSw; go_simp) hS ?_
  try simp only [List.setIfInBounds_toArray, List.set_cons_zero, List.set_cons_succ]
  refine take_f 1 17 (.agg #[.slice a0 n0 c0, .slice a1 n1 c1]) [4, 5, 6, 7] rfl rfl (by kernel_rfl) (by kernel_rfl) (by kernel_rfl) (by kernel_rfl) (by kernel_rfl) (by kernel_rfl) (fun _ _ _ h => h) rfl (fun w hSw => by obtain ⟨g0, g1, g2⟩ := hSw; go_simp) hS ?_
  try simp only [List.setIfInBounds_toArray, List.set_cons_zero, List.set_cons_succ]
  refine take_p 2 18 (.int .i64 q) rfl rfl (by kernel_rfl) (by kernel_rfl) (by kernel_rfl) (fun _ _ _ h => h) rfl (fun w => by go_simp) ?_
  try simp only [List.setIfInBounds_toArray, List.set_cons_zero, List.set_cons_succ]
  refine take_p 3 19 (.int .i64 i) rfl rfl (by kernel_rfl) (by kernel_rfl) (by kernel_rfl) (fun _ _ _ h => h) rfl (fun w => by go_simp) ?_
  try simp only [List.setIfInBounds_toArray, List.set_cons_zero, List.set_cons_succ]
  refine ready_f 4 (o := { dst := some 20, op := Op.call { callee := Callee.value (Operand.func 34), args := #[Operand.tmp 17, Operand.tmp 18, Operand.tmp 19], argTypes := #[27, 3, 3] }, type := 3, pos := "ref.go:66", after := #[{ on := 1, ground := Ground.data }, { on := 2, ground := Ground.data }, { on := 3, ground := Ground.data }], guard := none }) (by kernel_rfl) rfl (fun K hK => ?_)
  go_simp
  refine (kW _).out.mono ?_
  rintro e U3 ⟨rfl, hb3⟩
  refine hK.out _ _ (fun _ h => ⟨(hb3.cell (p := ⟨b0, 0, none⟩) h.2.2).trans h.1, (hb3.cell (p := ⟨b0, 1, none⟩) h.2.2).trans h.2.1, Nat.lt_of_lt_of_le h.2.2 hb3.size⟩) ?_
  clear hK K
  try simp only [Act.put, List.setIfInBounds_toArray, List.set_cons_zero, List.set_cons_succ]
  have R1 := hide1 ((hb3.block b1 (lt_heap R1.out)).trans R1.out)
  have B3 : Hid (Below w.heap.size w U3) := B2.out.trans (hb3.mono B2.out.size)
  clear hb3 hS
  refine ready_f 5 (o := { dst := none, op := Op.store 27 (Operand.tmp 6) (Operand.tmp 16), type := 0, pos := "ref.go:66", after := #[{ on := 0, ground := Ground.data }, { on := 4, ground := Ground.chain }, { on := 0, ground := Ground.phase }, { on := 1, ground := Ground.textOnly Departure.lateStores }, { on := 2, ground := Ground.textOnly Departure.lateStores }, { on := 3, ground := Ground.textOnly Departure.lateStores }, { on := 4, ground := Ground.textOnly Departure.lateStoresUnsure }], guard := none }) (by kernel_rfl) rfl (fun K hK => ?_)
  rw [if_pos (by rfl)]
  refine wp_store_row 27 _ _ rfl b1 _ rfl rfl 27 _ R1.out (by kernel_rfl) rfl (by kernel_rfl) ?_
  refine hK.out _ _ (fun h => absurd (by decide) h) ?_
  clear hK K
  refine take_p 6 7 (.string ⟨#[]⟩) rfl rfl (by kernel_rfl) (by kernel_rfl) (by kernel_rfl) (fun _ _ _ h => h) rfl (fun w => by go_simp) ?_
  try simp only [List.setIfInBounds_toArray, List.set_cons_zero, List.set_cons_succ]
  refine take_p 7 8 (.int .i64 c) rfl rfl (by kernel_rfl) (by kernel_rfl) (by kernel_rfl) (fun _ _ _ h => h) rfl (fun w => by go_simp) ?_
  try simp only [List.setIfInBounds_toArray, List.set_cons_zero, List.set_cons_succ]
  refine done_f (by kernel_rfl) ?_ _
  go_wp2
  exact ret_n3 Try.results22 b1 _ _ _ _ rfl rfl rfl (setRow_heap _ b1 _ _ _ _ R1.out) rfl ⟨rfl, below_setRow B3.out (by have := HS.out; omega) _⟩

set_option maxHeartbeats 1000000 in
theorem rswap_fail2 {N : Nat → List ByteArray} (a0 a1 : Option Addr) (c0 c1 : Nat) (q i j : Int) (w : World) (hc : plc N q i = 0 ∧ plc N q j ≠ 0) :
    Calls Try.prog 24 #[.agg #[.slice a0 (N 0).length c0, .slice a1 (N 1).length c1], .int .i64 q, .int .i64 i, .int .i64 j] w fun e w' => e = .returned (.tuple #[.agg #[.slice a0 (N 0).length c0, .slice a1 (N 1).length c1], .int .i64 (plc N q j)]) ∧ Below w.heap.size w w' := by
  have kV := fun w => hide1 (wrong_any (N := N) a0 a1 c0 c1 q i w)
  have kW := fun w => hide1 (wrong_any (N := N) a0 a1 c0 c1 q j w)
  rw [hc.1] at kV
  have hcb : (plc N q j != 0) = true := by simpa using hc.2
  generalize plc N q j = c at *
  generalize (N 0).length = n0 at *
  generalize (N 1).length = n1 at *
  clear hc
  go_enter Try.func24, Try.ntmps24
  go_wp2_with fail
  have h2 := two_new w (.cells #[.slice a0 n0 c0, .slice a1 n1 c1] 27) (.cells #[.slice none 0 0, .slice none 0 0] 27)
  have hB := below2 (w := w) (.cells #[.slice a0 n0 c0, .slice a1 n1 c1] 27) (.cells #[.slice none 0 0, .slice none 0 0] 27)
  have H2 := hide1 h2
  have HB := hide1 hB
  clear h2 hB
  generalize (w.alloc _).alloc _ = W1 at H2 HB ⊢
  obtain ⟨b0, hb0⟩ : ∃ b0, w.heap.size = b0 := ⟨_, rfl⟩
  obtain ⟨b1, hb1⟩ : ∃ b1, w.heap.size + 1 = b1 := ⟨_, rfl⟩
  have HS : Hid (w.heap.size = b0 ∧ b0 + 1 = b1) := ⟨hb0, by omega⟩
  rw [hb1, hb0] at H2
  rw [hb1, hb0]
  clear hb0 hb1
  refine ((kV _).out).mono ?_
  rintro e W3 ⟨rfl, hbb⟩
  have R0' := hide1 ((hbb.block b0 (lt_heap H2.out.1)).trans H2.out.1)
  have R1' := hide1 ((hbb.block b1 (lt_heap H2.out.2)).trans H2.out.2)
  have B2' : Hid (Below w.heap.size w W3) := HB.out.trans (hbb.mono HB.out.size)
  clear hbb H2 HB
  have R0 := R0'
  have R1 := R1'
  have B2 := B2'
  clear R0' R1' B2'
  obtain ⟨d0, d1, _, _, _⟩ := box2 R0.out
  go_wp2_with fail
  clear d0 d1
  refine ((kW _).out).mono ?_
  rintro e W2 ⟨rfl, hbb⟩
  have R0' := hide1 ((hbb.block b0 (lt_heap R0.out)).trans R0.out)
  have R1' := hide1 ((hbb.block b1 (lt_heap R1.out)).trans R1.out)
  have B2' : Hid (Below w.heap.size w W2) := B2.out.trans (hbb.mono B2.out.size)
  clear hbb R0 R1 B2
  have R0 := R0'
  have R1 := R1'
  have B2 := B2'
  clear R0' R1' B2'
  obtain ⟨d0, d1, _, _, _⟩ := box2 R0.out
  go_upto_region 4 with (fail)
  clear d0 d1
  refine region_f (F := [5]) (S := fun W => W.cell? ⟨b0, 0, none⟩ = some (.slice a0 n0 c0) ∧ W.cell? ⟨b0, 1, none⟩ = some (.slice a1 n1 c1) ∧ b0 < W.heap.size) (by kernel_rfl) ⟨(box2 R0.out).1, (box2 R0.out).2.1, (box2 R0.out).2.2.2.2⟩ (fun hS => ?_)
  generalize hU : World.drew W2 = U at hS ⊢
  have R0 : Hid (U.heap[b0]? = some (.cells #[.slice a0 n0 c0, .slice a1 n1 c1] 27 (0, 0))) := by rw [← hU]; exact R0.out
  have R1 : Hid (U.heap[b1]? = some (.cells #[.slice none 0 0, .slice none 0 0] 27 (0, 0))) := by rw [← hU]; exact R1.out
  have B2 : Hid (Below w.heap.size w U) := by rw [← hU]; exact B2.out.drew
  clear hU
  refine take_f 0 26 (.agg #[.slice a0 n0 c0, .slice a1 n1 c1]) [5, 6] rfl rfl (by kernel_rfl) (by kernel_rfl) (by kernel_rfl) (by kernel_rfl) (by kernel_rfl) (by kernel_rfl) (fun _ _ _ h => h) rfl (fun w hSw => by obtain ⟨g0, g1, g2⟩ := hSw; go_simp) hS ?_
  try simp only [List.setIfInBounds_toArray, List.set_cons_zero, List.set_cons_succ]
  refine take_f 1 27 (.agg #[.slice a0 n0 c0, .slice a1 n1 c1]) [4, 5, 6] rfl rfl (by kernel_rfl) (by kernel_rfl) (by kernel_rfl) (by kernel_rfl) (by kernel_rfl) (by kernel_rfl) (fun _ _ _ h => h) rfl (fun w hSw => by obtain ⟨g0, g1, g2⟩ := hSw; go_simp) hS ?_
  try simp only [List.setIfInBounds_toArray, List.set_cons_zero, List.set_cons_succ]
  refine take_p 2 28 (.int .i64 q) rfl rfl (by kernel_rfl) (by kernel_rfl) (by kernel_rfl) (fun _ _ _ h => h) rfl (fun w => by go_simp) ?_
  try simp only [List.setIfInBounds_toArray, List.set_cons_zero, List.set_cons_succ]
  refine take_p 3 29 (.int .i64 j) rfl rfl (by kernel_rfl) (by kernel_rfl) (by kernel_rfl) (fun _ _ _ h => h) rfl (fun w => by go_simp) ?_
  try simp only [List.setIfInBounds_toArray, List.set_cons_zero, List.set_cons_succ]
  refine ready_f 4 (o := { dst := some 30, op := Op.call { callee := Callee.value (Operand.func 34), args := #[Operand.tmp 27, Operand.tmp 28, Operand.tmp 29], argTypes := #[27, 3, 3] }, type := 3, pos := "ref.go:94", after := #[{ on := 1, ground := Ground.data }, { on := 2, ground := Ground.data }, { on := 3, ground := Ground.data }], guard := none }) (by kernel_rfl) rfl (fun K hK => ?_)
  go_simp
  refine (kW _).out.mono ?_
  rintro e U3 ⟨rfl, hb3⟩
  refine hK.out _ _ (fun _ h => ⟨(hb3.cell (p := ⟨b0, 0, none⟩) h.2.2).trans h.1, (hb3.cell (p := ⟨b0, 1, none⟩) h.2.2).trans h.2.1, Nat.lt_of_lt_of_le h.2.2 hb3.size⟩) ?_
  clear hK K
  try simp only [Act.put, List.setIfInBounds_toArray, List.set_cons_zero, List.set_cons_succ]
  have R1 := hide1 ((hb3.block b1 (lt_heap R1.out)).trans R1.out)
  have B3 : Hid (Below w.heap.size w U3) := B2.out.trans (hb3.mono B2.out.size)
  clear hb3 hS
  refine ready_f 5 (o := { dst := none, op := Op.store 27 (Operand.tmp 8) (Operand.tmp 26), type := 0, pos := "ref.go:94", after := #[{ on := 0, ground := Ground.data }, { on := 4, ground := Ground.chain }, { on := 0, ground := Ground.phase }, { on := 1, ground := Ground.textOnly Departure.lateStores }, { on := 2, ground := Ground.textOnly Departure.lateStores }, { on := 3, ground := Ground.textOnly Departure.lateStores }, { on := 4, ground := Ground.textOnly Departure.lateStoresUnsure }], guard := none }) (by kernel_rfl) rfl (fun K hK => ?_)
  rw [if_pos (by rfl)]
  refine wp_store_row 27 _ _ rfl b1 _ rfl rfl 27 _ R1.out (by kernel_rfl) rfl (by kernel_rfl) ?_
  refine hK.out _ _ (fun h => absurd (by decide) h) ?_
  clear hK K
  refine take_p 6 9 (.int .i64 c) rfl rfl (by kernel_rfl) (by kernel_rfl) (by kernel_rfl) (fun _ _ _ h => h) rfl (fun w => by go_simp) ?_
  try simp only [List.setIfInBounds_toArray, List.set_cons_zero, List.set_cons_succ]
  refine done_f (by kernel_rfl) ?_ _
  go_wp2
  exact ret_n2 Try.results24 b1 _ _ _ rfl rfl (setRow_heap _ b1 _ _ _ _ R1.out) rfl ⟨rfl, below_setRow B3.out (by have := HS.out; omega) _⟩

end Go.Proofs.Ytfnedohampmnoaa
