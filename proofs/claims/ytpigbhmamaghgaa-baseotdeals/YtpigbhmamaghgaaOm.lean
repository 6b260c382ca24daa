/- The document's Deal. -/
import Derived.Test.YtpigbhmamaghgaaOl
import Derived.Test.YtpigbhmamaghgaaOi
namespace Go.Proofs.Ytpigbhmamaghgaa
open Go.RowKit Pg
set_option maxRecDepth 100000
attribute [local go_sem] not_any

theorem Sds.one {w : World} {v : Value} {f : Nat → List Nat} {n : Nat} (h : Sds w v f n) : v.oneCell' = true := by
  obtain ⟨g, c, rfl, _⟩ := h.at'
  rfl
theorem all5 {a b c d e : Value} (h1 : a.oneCell' = true) (h2 : b.oneCell' = true) (h3 : c.oneCell' = true) (h4 : d.oneCell' = true) (h5 : e.oneCell' = true) : (#[a, b, c, d, e] : Array Value).all (·.oneCell') = true := by
  simp [h1, h2, h3, h4, h5]
/- seeds that lie elsewhere stay when a struct is stored -/
theorem Sds.set {w : World} {v : Value} {f : Nat → List Nat} {n b : Nat} {cs c0 : Array Value} (h : Sds w v f n) (hn : 0 < n) (hf : ∀ i, (f i).length = 32) (hb : w.heap[b]? = some (.cells c0 37 (0, 0))) (h0 : c0[0]? = some (.int .u64 0)) : Sds (w.setRow b cs) v f n := by
  obtain ⟨g, c, rfl, hg, hr⟩ := h.at'
  have hne : g ≠ b := fun e => by
    have h1 := hr 0 hn 0 ((u8s (f 0))[0]'(by rw [u8s_length, hf]; omega)) (List.getElem?_eq_getElem _)
    rw [e, cell_of_row w b _ _ _ _ hb] at h1
    simp only [Nat.zero_mul, Nat.add_zero] at h1
    rw [h0] at h1
    simp [u8s] at h1
  refine ⟨g, c, rfl, by simpa [World.setRow] using hg, fun i hi j u hu => ?_⟩
  exact (World.cell?_of_block (setRow_other w b g cs hne)).trans (hr i hi j u hu)
theorem Sds.drew {w : World} {v : Value} {f : Nat → List Nat} {n : Nat} (h : Sds w v f n) : Sds w.drew v f n := h.below ((Below.refl _ _).drew) (Nat.le_refl _)
theorem ret_side {fn : Func} {p u : Tmp} (h : fn.results = #[.cell p 37, .cell u 37]) {R : Ending → World → Prop} {a : Act} {w : World} (g gu : Nat) (cs cu : Array Value) (hp : a.tmps.getD p undef = .pointer (some ⟨g, 0, none⟩)) (hu : a.tmps.getD u undef = .pointer (some ⟨gu, 0, none⟩))
    (hg : w.heap[g]? = some (.cells cs 37 (0, 0))) (hgu : w.heap[gu]? = some (.cells cu 37 (0, 0))) (hip : (Try.prog.info? 37).map (·.size) = some cs.size) (hiu : (Try.prog.info? 37).map (·.size) = some cu.size) (hd : a.defers = []) (hR : R (.returned (.tuple #[.agg cs, .agg cu])) w) : bodyPost Try.prog fn R .ret a w := by
  refine bodyPost_ret_by (v := .tuple #[.agg cs, .agg cu]) ?_ hd hR
  have hl := run_loadVar_row (P := Try.prog) w g _ 37 cs (0, 0) _ hg Try.underlying37 rfl hip
  have hl2 := run_loadVar_row (P := Try.prog) w gu _ 37 cu (0, 0) _ hgu Try.underlying37 rfl hiu
  have hp' : a.tmps[p]?.getD undef = .pointer (some ⟨g, 0, none⟩) := by simpa using hp
  have hu' : a.tmps[u]?.getD undef = .pointer (some ⟨gu, 0, none⟩) := by simpa using hu
  simp [results, h, hp', hu', asAddr, hl, hl2]


set_option maxHeartbeats 4000000 in
theorem rdeal_any (kl : List Nat) (y : Nat) (w : World) (hk : kl.length = 32) (bk : Lt 256 kl) (hy : y < 18446744073709551616) :
    Calls Try.prog 7 #[arr8 kl, .int .u64 (y : Int)] w fun e w' => ∃ Z0 O0 K0 Z1 O1 K1, e = .returned (.tuple #[.agg #[.int .u64 (wd (rt0 kl y) 9 0 : Nat), .int .u64 (wd (rt0 kl y) 9 1 : Nat), Z0, O0, K0], .agg #[.int .u64 (wd (rt1 kl y) 9 0 : Nat), .int .u64 (wd (rt1 kl y) 9 1 : Nat), Z1, O1, K1]])
      ∧ Sds w' Z0 (dz (rt0 kl y)) 128 ∧ Sds w' O0 (dn (rt0 kl y)) 128 ∧ Sds w' K0 (dk (rt0 kl y)) 128 ∧ Sds w' Z1 (dz (rt1 kl y)) 128 ∧ Sds w' O1 (dn (rt1 kl y)) 128 ∧ Sds w' K1 (dk (rt1 kl y)) 128 ∧ Below w.heap.size w w' := by
  have k0 : ∀ w, Hid (Calls Try.prog 21 #[.agg (u8s kl).toArray, .int .u64 (y : Int)] w fun e w' => e = .returned (.agg (u8s (childP kl y)).toArray) ∧ Below w.heap.size w w') := fun w => rchild_any kl y w hk bk hy
  have hrl := childP_length kl y
  have hrt := childP_lt kl y
  have k1 : ∀ w, Hid (Calls Try.prog 21 #[.agg (u8s (childP kl y)).toArray, .int .u64 0] w fun e w' => e = .returned (.agg (u8s (rt0 kl y)).toArray) ∧ Below w.heap.size w w') := fun w => rchild_any (childP kl y) 0 w hrl hrt (by omega)
  have k2 : ∀ w, Hid (Calls Try.prog 21 #[.agg (u8s (childP kl y)).toArray, .int .u64 1] w fun e w' => e = .returned (.agg (u8s (rt1 kl y)).toArray) ∧ Below w.heap.size w w') := fun w => rchild_any (childP kl y) 1 w hrl hrt (by omega)
  have kd0 := fun w => hide1 (rdirection_any (rt0 kl y) w (childP_length _ _) (childP_lt _ _))
  have kd1 := fun w => hide1 (rdirection_any (rt1 kl y) w (childP_length _ _) (childP_lt _ _))
  unfold arr8 at kd0 kd1
  have hi := hi23 hk
  have hir := hi23 hrl
  have hzr : Shy ((u8s (zeros 32)).toArray.size = (u8s (childP kl y)).toArray.size) := ⟨by simp [u8s, zeros, hrl]⟩
  have HL : Shy ((∀ i, (dk (rt0 kl y) i).length = 32) ∧ (∀ i, (dz (rt0 kl y) i).length = 32) ∧ (∀ i, (dn (rt0 kl y) i).length = 32) ∧ (∀ i, (dk (rt1 kl y) i).length = 32) ∧ (∀ i, (dz (rt1 kl y) i).length = 32) ∧ ∀ i, (dn (rt1 kl y) i).length = 32) := ⟨⟨dk_len _, dz_len _, dn_len _, dk_len _, dz_len _, dn_len _⟩⟩
  generalize wd (rt0 kl y) 9 0 = x0 at *
  generalize wd (rt0 kl y) 9 1 = y0 at *
  generalize wd (rt1 kl y) 9 0 = x1 at *
  generalize wd (rt1 kl y) 9 1 = y1 at *
  generalize dk (rt0 kl y) = fk0 at *
  generalize dz (rt0 kl y) = fz0 at *
  generalize dn (rt0 kl y) = fo0 at *
  generalize dk (rt1 kl y) = fk1 at *
  generalize dz (rt1 kl y) = fz1 at *
  generalize dn (rt1 kl y) = fo1 at *
  generalize rt0 kl y = r0 at *
  generalize rt1 kl y = r1 at *
  generalize childP kl y = rr at *
  clear hk bk hy hrl hrt
  unfold arr8
  go_enter Try.func7, Try.ntmps7
  go_upto_region 1 with (fail)
  generalize hX : World.alloc (World.alloc (World.alloc w _) _) _ = X
  obtain ⟨x0', x1', x2', xb, xs⟩ := three_at hX
  have X0 : Hid (X.heap[w.heap.size]? = some (row8 23 kl)) := x0'
  have X1 := hide1 x1'
  have X2 := hide1 x2'
  have XB := hide1 xb
  clear hX x0' x1' x2' xb xs
  go_wp2_with (first | (refine wpList_load_row rfl 23 (.tmp 2) rfl w.heap.size rfl 23 (u8s kl).toArray (0, 0) _ X0.out Try.underlying23 rfl hi ?_) | fail)
  go_at_call 21
  refine (k0 _).out.mono ?_
  rintro e w1 ⟨rfl, hb1⟩
  have B1 := hide1 (XB.out.trans (hb1.mono XB.out.size))
  have A1 := hide1 ((hb1.block _ (lt_heap X1.out)).trans X1.out)
  have A2 := hide1 ((hb1.block _ (lt_heap X2.out)).trans X2.out)
  clear hb1 X0 X1 X2 XB k0
  go_upto_region 2 with (first | (refine wpList_store_own rfl 23 (.tmp 6) (.tmp 9) rfl w1.heap.size rfl (u8s rr).toArray rfl 23 _ (heap_alloc_new w1 (row8 23 (zeros 32))) hir hzr.out (all_one (u8s_one _)) ?_) | fail)
  generalize hY : World.setRow _ w1.heap.size _ = Y
  have y6 : Y.heap[w1.heap.size]? = some (row8 23 rr) := by rw [← hY]; exact setRow_heap _ _ _ _ _ _ (heap_alloc_new w1 _)
  have yb : Below w1.heap.size w1 Y := by rw [← hY]; exact Below.setRow' ((Below.refl _ _).alloc (Nat.le_refl _) _) (Nat.le_refl _) _
  obtain ⟨g6, hg6⟩ : ∃ g, g = w1.heap.size := ⟨_, rfl⟩
  rw [← hg6] at y6 ⊢
  have Y6 := hide1 y6
  have Y4 := hide1 ((yb.block _ (lt_heap A1.out)).trans A1.out)
  have Y5 := hide1 ((yb.block _ (lt_heap A2.out)).trans A2.out)
  have YB := hide1 (B1.out.trans (yb.mono (show w.heap.size ≤ w1.heap.size by have := lt_heap A1.out; omega)))
  clear hY y6 yb A1 A2 B1 hg6 w1
  refine region_f (F := [6, 7]) (S := fun w' => Below Y.heap.size Y w') (by kernel_rfl) ((Below.refl _ _).drew) (fun hS => ?_)
  refine take_f 0 10 (.agg (u8s rr).toArray) [1, 2, 4, 5, 6, 7] rfl rfl (by kernel_rfl) (by kernel_rfl) (by kernel_rfl) (by kernel_rfl) (by kernel_rfl) (by kernel_rfl) (fun _ _ _ h => h) rfl (fun w hSw => by exact exec_load_row 23 (.tmp 6) rfl _ rfl 23 _ _ _ ((hSw.block _ (lt_heap Y6.out)).trans Y6.out) Try.underlying23 hir) hS ?_
  try simp only [List.setIfInBounds_toArray, List.set_cons_zero, List.set_cons_succ]
  refine take_f 3 13 (.agg (u8s rr).toArray) [4, 5, 6, 7] rfl rfl (by kernel_rfl) (by kernel_rfl) (by kernel_rfl) (by kernel_rfl) (by kernel_rfl) (by kernel_rfl) (fun _ _ _ h => h) rfl (fun w hSw => by exact exec_load_row 23 (.tmp 6) rfl _ rfl 23 _ _ _ ((hSw.block _ (lt_heap Y6.out)).trans Y6.out) Try.underlying23 hir) hS ?_
  try simp only [List.setIfInBounds_toArray, List.set_cons_zero, List.set_cons_succ]
  refine ready_f 1 (o := { dst := some 11, op := Op.call { callee := Callee.value (Operand.func 21), args := #[Operand.tmp 10, Operand.const (Value.int IntKind.u64 0)], argTypes := #[23, 24] }, type := 23, pos := "ref.go:50", after := #[{ on := 0, ground := Ground.data }], guard := none }) (by kernel_rfl) rfl (fun K hK => ?_)
  go_simp
  refine (k1 _).out.mono ?_
  rintro e v1 ⟨rfl, hb1⟩
  have hS1 := hS.trans (hb1.mono hS.size)
  refine hK.out _ _ (fun _ _ => hS1) ?_
  clear hK K
  try simp only [Act.put, List.setIfInBounds_toArray, List.set_cons_zero, List.set_cons_succ]
  refine ready_f 2 (o := { dst := some 12, op := Op.call { callee := Callee.value (Operand.func 22), args := #[Operand.tmp 11], argTypes := #[23] }, type := 37, pos := "ref.go:50", after := #[{ on := 1, ground := Ground.data }, { on := 1, ground := Ground.chain }], guard := none }) (by kernel_rfl) rfl (fun K hK => ?_)
  go_simp
  refine (kd0 _).out.mono ?_
  rintro e v2 ⟨Z0, O0, K0, rfl, sz0, so0, sk0, hb2⟩
  have hS2 := hS1.trans (hb2.mono hS1.size)
  refine hK.out _ _ (fun _ _ => hS2) ?_
  clear hK K
  try simp only [Act.put, List.setIfInBounds_toArray, List.set_cons_zero, List.set_cons_succ]
  refine ready_f 4 (o := { dst := some 14, op := Op.call { callee := Callee.value (Operand.func 21), args := #[Operand.tmp 13, Operand.const (Value.int IntKind.u64 1)], argTypes := #[23, 24] }, type := 23, pos := "ref.go:50", after := #[{ on := 3, ground := Ground.data }, { on := 2, ground := Ground.chain }], guard := none }) (by kernel_rfl) rfl (fun K hK => ?_)
  go_simp
  refine (k2 _).out.mono ?_
  rintro e v3 ⟨rfl, hb3⟩
  have hS3 := hS2.trans (hb3.mono hS2.size)
  refine hK.out _ _ (fun _ _ => hS3) ?_
  clear hK K
  try simp only [Act.put, List.setIfInBounds_toArray, List.set_cons_zero, List.set_cons_succ]
  refine ready_f 5 (o := { dst := some 15, op := Op.call { callee := Callee.value (Operand.func 22), args := #[Operand.tmp 14], argTypes := #[23] }, type := 37, pos := "ref.go:50", after := #[{ on := 4, ground := Ground.data }, { on := 4, ground := Ground.chain }], guard := none }) (by kernel_rfl) rfl (fun K hK => ?_)
  go_simp
  refine (kd1 _).out.mono ?_
  rintro e v4 ⟨Z1, O1, K1, rfl, sz1, so1, sk1, hb4⟩
  have hS4 := hS3.trans (hb4.mono hS3.size)
  refine hK.out _ _ (fun _ _ => hS4) ?_
  clear hK K
  try simp only [Act.put, List.setIfInBounds_toArray, List.set_cons_zero, List.set_cons_succ]
  have hb34 := hb3.trans (hb4.mono hb3.size)
  have R4 := hide1 ((hS4.block _ (lt_heap Y4.out)).trans Y4.out)
  have R5 := hide1 ((hS4.block _ (lt_heap Y5.out)).trans Y5.out)
  have oZ0 : Z0.oneCell' = true := sz0.one
  have oO0 : O0.oneCell' = true := so0.one
  have oK0 : K0.oneCell' = true := sk0.one
  have oZ1 : Z1.oneCell' = true := sz1.one
  have oO1 : O1.oneCell' = true := so1.one
  have oK1 : K1.oneCell' = true := sk1.one
  have HC0 : Shy ((#[.int .u64 (x0 : Int), .int .u64 (y0 : Int), Z0, O0, K0] : Array Value).all (·.oneCell') = true) := ⟨all5 rfl rfl oZ0 oO0 oK0⟩
  have HC1 : Shy ((#[.int .u64 (x1 : Int), .int .u64 (y1 : Int), Z1, O1, K1] : Array Value).all (·.oneCell') = true) := ⟨all5 rfl rfl oZ1 oO1 oK1⟩
  refine ready_f 6 (o := { dst := none, op := Op.store 37 (Operand.tmp 4) (Operand.tmp 12), type := 0, pos := "ref.go:50", after := #[{ on := 2, ground := Ground.data }, { on := 5, ground := Ground.chain }, { on := 0, ground := Ground.phase }, { on := 1, ground := Ground.phase }, { on := 2, ground := Ground.phase }, { on := 3, ground := Ground.textOnly Departure.lateStores }, { on := 4, ground := Ground.textOnly Departure.lateStoresUnsure }, { on := 5, ground := Ground.textOnly Departure.lateStoresUnsure }], guard := none }) (by kernel_rfl) rfl (fun K hK => ?_)
  rw [if_pos (by rfl)]
  refine wp_store_row 37 _ _ rfl (w.heap.size + 1) _ rfl rfl 37 _ R4.out (by kernel_rfl) (by simp) HC0.out ?_
  refine hK.out _ _ (fun h => absurd (by decide) h) ?_
  clear hK K
  refine ready_f 7 (o := { dst := none, op := Op.store 37 (Operand.tmp 5) (Operand.tmp 15), type := 0, pos := "ref.go:50", after := #[{ on := 5, ground := Ground.data }, { on := 6, ground := Ground.chain }, { on := 0, ground := Ground.phase }, { on := 1, ground := Ground.phase }, { on := 2, ground := Ground.phase }, { on := 3, ground := Ground.phase }, { on := 4, ground := Ground.phase }, { on := 5, ground := Ground.phase }, { on := 6, ground := Ground.phase }], guard := none }) (by kernel_rfl) rfl (fun K hK => ?_)
  rw [if_pos (by rfl)]
  refine wp_store_row 37 _ _ rfl (w.heap.size + 1 + 1) _ rfl rfl 37 _ ((setRow_other _ _ _ _ (by omega)).trans R5.out) (by kernel_rfl) (by simp) HC1.out ?_
  refine hK.out _ _ (fun h => absurd (by decide) h) ?_
  clear hK K
  refine done_f (by kernel_rfl) ?_ _
  have tz0 := (sz0.below hb34 (Nat.le_refl _))
  have to0 := (so0.below hb34 (Nat.le_refl _))
  have tk0 := (sk0.below hb34 (Nat.le_refl _))
  have f4 := setRow_heap v4 (w.heap.size + 1) _ #[.int .u64 (x0 : Int), .int .u64 (y0 : Int), Z0, O0, K0] _ _ R4.out
  have r5 := (setRow_other v4 (w.heap.size + 1) (w.heap.size + 1 + 1) #[.int .u64 (x0 : Int), .int .u64 (y0 : Int), Z0, O0, K0] (by omega)).trans R5.out
  have f5 := setRow_heap (v4.setRow (w.heap.size + 1) #[.int .u64 (x0 : Int), .int .u64 (y0 : Int), Z0, O0, K0]) (w.heap.size + 1 + 1) _ #[.int .u64 (x1 : Int), .int .u64 (y1 : Int), Z1, O1, K1] _ _ r5
  have f4' := (setRow_other (v4.setRow (w.heap.size + 1) #[.int .u64 (x0 : Int), .int .u64 (y0 : Int), Z0, O0, K0]) (w.heap.size + 1 + 1) (w.heap.size + 1) #[.int .u64 (x1 : Int), .int .u64 (y1 : Int), Z1, O1, K1] (by omega)).trans f4
  have hz := fun {v : Value} {f : Nat → List Nat} (h : Sds v4 v f 128) (hf : ∀ i, (f i).length = 32) => (h.set (cs := #[.int .u64 (x0 : Int), .int .u64 (y0 : Int), Z0, O0, K0]) (by omega) hf R4.out rfl).set (cs := #[.int .u64 (x1 : Int), .int .u64 (y1 : Int), Z1, O1, K1]) (by omega) hf r5 rfl
  have a1 := hz tz0 HL.out.2.1
  have a2 := hz to0 HL.out.2.2.1
  have a3 := hz tk0 HL.out.1
  have a4 := hz sz1 HL.out.2.2.2.2.1
  have a5 := hz so1 HL.out.2.2.2.2.2
  have a6 := hz sk1 HL.out.2.2.2.1
  have hB := Below.setRow' (Below.setRow' (YB.out.trans (hS4.mono (show w.heap.size ≤ Y.heap.size by have := lt_heap Y4.out; omega))) (show w.heap.size ≤ w.heap.size + 1 by omega) #[.int .u64 (x0 : Int), .int .u64 (y0 : Int), Z0, O0, K0]) (show w.heap.size ≤ w.heap.size + 1 + 1 by omega) #[.int .u64 (x1 : Int), .int .u64 (y1 : Int), Z1, O1, K1]
  clear hz tz0 to0 tk0 sz0 so0 sk0 sz1 so1 sk1 hb34 hb1 hb2 hb3 hb4 hS hS1 hS2 hS3 hS4 R4 R5 r5 f4 HC0 HC1 k1 k2 kd0 kd1
  generalize World.setRow (World.setRow v4 _ _) _ _ = U at *
  go_wp2
  refine ret_side Try.results7 (w.heap.size + 1) (w.heap.size + 1 + 1) _ _ rfl rfl f4' f5 (by kernel_rfl) (by kernel_rfl) rfl ?_
  exact ⟨Z0, O0, K0, Z1, O1, K1, rfl, a1, a2, a3, a4, a5, a6, hB⟩
end Go.Proofs.Ytpigbhmamaghgaa
