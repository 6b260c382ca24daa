/- A seed made of a seed: Child, and the document's. -/
import Derived.Test.YtpigbhmamaghgaaPgBy
import Derived.Test.YtpigbhmamaghgaaPgRn
namespace Go.Proofs.Ytpigbhmamaghgaa.Pg
open Go.RowKit
set_option maxRecDepth 100000
attribute [local go_sem] not_any

theorem text_cells (s : ByteArray) (n : Nat) : ((s.extract 0 n).data.map fun b => Value.int .u8 b.toNat) = (u8s ((nums s).take n)).toArray := by
  have e := nums_extract s 0 n
  rw [List.drop_zero, Nat.sub_zero] at e
  rw [← e]
  apply Array.ext'
  simp [u8s, nums]
  rfl

/- bytes copied out of a text -/
theorem run_copy_text {w : World} (g off dLen dCap : Nat) (str : ByteArray) (cur : List Value) (t : TypeId) (hg : w.heap[g]? = some (.cells cur.toArray t (0, 0))) (n : Nat) (hn : n = min str.size dLen) (hf : off + n ≤ cur.length) :
    (Builtin.copy_ #[59, 9] 3 #[.slice (some ⟨g, off, none⟩) dLen dCap, .string str]).run Try.prog w = .ok (.int .i64 (n : Int)) (w.setRow g (splice cur off (u8s ((nums str).take n))).toArray) := by
  have hu := Try.underlying59
  have hsz := size5
  have hl : (u8s ((nums str).take n)).length = n := by rw [u8s_length, List.length_take, nums_length]; omega
  have hst := run_storeCells_at Try.prog g off t (u8s ((nums str).take n)) 0 cur.toArray w hg (by rw [hl]; simpa using hf) (u8s_one _)
  have hn' : Nat.min str.size dLen = n := hn.symm
  have hc := text_cells str n
  cases hq : Try.prog.info? 5 with
  | none => simp [hq] at hsz
  | some i =>
    have hi : i.size = 1 := by simpa [hq] using hsz
    simp only [Nat.add_zero] at hst
    have hfc : (Builtin.firstCells 1 n (.string str)).run Try.prog w = .ok (u8s ((nums str).take n)).toArray w := by
      simp only [Builtin.firstCells]
      rw [hc]
      rfl
    simp [Builtin.copy_, run_underlying hu, Builtin.lenOf, hfc, sizeOf, typeInfo, hq, hi, hn', hst, splice, goInt]

def childP (kl : List Nat) (y : Nat) : List Nat := (blockP kl (nonceP 4294967295 y) 0).take 32
theorem childP_length (kl : List Nat) (y : Nat) : (childP kl y).length = 32 := by rw [childP, List.length_take, blockP_length]; rfl

theorem three_at {w X : World} {A B C : Obj} (h : ((w.alloc A).alloc B).alloc C = X) : X.heap[w.heap.size]? = some A ∧ X.heap[w.heap.size + 1]? = some B ∧ X.heap[w.heap.size + 2]? = some C ∧ Below w.heap.size w X ∧ w.heap.size + 3 ≤ X.heap.size := by
  subst h
  refine ⟨by rw [heap_alloc_old _ _ (by simp; omega), heap_alloc2_old], by rw [heap_alloc_old _ _ (by simp), heap_alloc2_new], by have := heap_alloc_new ((w.alloc A).alloc B) C; simpa using this, ?_, by simp⟩
  exact (((Below.refl _ _).alloc (Nat.le_refl _) _).alloc (by simp) _).alloc (by simp; omega) _

set_option maxHeartbeats 2000000 in
theorem child_any (kl : List Nat) (y : Nat) (w : World) (hk : kl.length = 32) (bk : Lt 256 kl) (hy : y < 18446744073709551616) :
    Calls Try.prog 19 #[arr8 kl, .int .u64 (y : Int)] w fun e w' => e = .returned (arr8 (childP kl y)) ∧ Below w.heap.size w w' := by
  obtain ⟨L, hL⟩ : ∃ L, L = nonceP 4294967295 y := ⟨_, rfl⟩
  have HT : Shy (nums (txt (nonceP 4294967295 y)) = nonceP 4294967295 y) := ⟨nums_txt (nonceP_lt _ _)⟩
  have hts : (txt (nonceP 4294967295 y)).size = 12 := by rw [nums_size HT.out, nonceP_length]
  have kn := fun w => hide1 (nonce_any 4294967295 y w hy)
  have kb := fun w => hide1 (bblock_any kl (txt (nonceP 4294967295 y)) 0 w hk bk hts (by omega))
  rw [HT.out] at kb
  have HTb : Shy (nums (txt (blockP kl (nonceP 4294967295 y) 0)) = blockP kl (nonceP 4294967295 y) 0) := ⟨nums_txt (blockP_lt _ _ _)⟩
  have htb : (txt (blockP kl (nonceP 4294967295 y) 0)).size = 64 := by rw [nums_size HTb.out, blockP_length]
  have HLb : Shy ((blockP kl (nonceP 4294967295 y) 0).length = 64) := ⟨blockP_length _ _ _⟩
  have HC : Shy (childP kl y = (blockP kl (nonceP 4294967295 y) 0).take 32) := ⟨rfl⟩
  have HCl : Shy ((childP kl y).length = 32) := ⟨childP_length kl y⟩
  generalize txt (blockP kl (nonceP 4294967295 y) 0) = tb at *
  generalize txt (nonceP 4294967295 y) = tx at *
  generalize blockP kl (nonceP 4294967295 y) 0 = bl at *
  generalize childP kl y = cl at *
  have hu := Try.underlying23
  have hi : (Try.prog.info? 23).map (·.size) = some (u8s kl).toArray.size := by rw [show (u8s kl).toArray.size = 32 by simp [u8s, hk]]; kernel_rfl
  have hi2 : (Try.prog.info? 23).map (·.size) = some (u8s cl).toArray.size := by rw [show (u8s cl).toArray.size = 32 by simp [u8s, HCl.out]]; kernel_rfl
  clear hk bk HT hL L hts
  unfold arr8 at kb ⊢
  clear hy
  go_enter Try.func19, Try.ntmps19
  go_upto_region 2 with (fail)
  generalize hX : World.alloc (World.alloc (World.alloc w _) _) _ = X
  obtain ⟨x0, x1, x2, xb, xs⟩ := three_at hX
  have HR : Hid (∀ w' : World, Below X.heap.size X w' → w'.heap[w.heap.size]? = some (row8 23 kl)) := fun w' hb => (hb.block _ (lt_heap x0)).trans x0
  have HR1 : Hid (∀ w' : World, Below X.heap.size X w' → w'.heap[w.heap.size + 1]? = some (row8 23 (zeros 32))) := fun w' hb => (hb.block _ (lt_heap x1)).trans x1
  have HR2 : Hid (∀ w' : World, Below X.heap.size X w' → w'.heap[w.heap.size + 2]? = some (row8 23 (zeros 32))) := fun w' hb => (hb.block _ (lt_heap x2)).trans x2
  have XB := hide1 xb
  have XS := hide1 xs
  clear hX x0 x1 x2 xb xs
  refine region_f (F := []) (S := fun w' => Below X.heap.size X w') (by kernel_rfl) ((Below.refl _ _).drew) (fun hS => ?_)
  refine take_f 0 9 (.agg (u8s kl).toArray) [3, 4, 5, 6, 7, 8] rfl rfl (by kernel_rfl) (by kernel_rfl) (by kernel_rfl) (by kernel_rfl) (by kernel_rfl) (by kernel_rfl) (fun _ _ _ h => h) rfl (fun w hSw => by exact exec_load_row 23 (.tmp 2) rfl _ rfl 23 _ _ _ (HR.out _ hSw) hu hi) hS ?_
  try simp only [List.setIfInBounds_toArray, List.set_cons_zero, List.set_cons_succ]
  refine take_p 1 10 (.int .u64 (y : Int)) rfl rfl (by kernel_rfl) (by kernel_rfl) (by kernel_rfl) (fun _ _ _ h => h) rfl (fun w => by go_simp) ?_
  try simp only [List.setIfInBounds_toArray, List.set_cons_zero, List.set_cons_succ]
  refine ready_f 2 (o := { dst := some 11, op := Op.call { callee := Callee.value (Operand.func 27), args := #[Operand.const (Value.int IntKind.u32 4294967295), Operand.tmp 10], argTypes := #[66, 24] }, type := 9, pos := "prg.go:77", after := #[{ on := 1, ground := Ground.data }], guard := none }) (by kernel_rfl) rfl (fun K hK => ?_)
  go_simp
  refine (kn _).out.mono ?_
  rintro e w1 ⟨rfl, hb1⟩
  have hS1 : Below X.heap.size X w1 := hS.trans (hb1.mono hS.size)
  refine hK.out _ _ (fun _ _ => hS1) ?_
  clear hK K
  try simp only [Act.put, List.setIfInBounds_toArray, List.set_cons_zero, List.set_cons_succ]
  clear hb1 hS
  refine ready_f 3 (o := { dst := some 12, op := Op.call { callee := Callee.value (Operand.func 26), args := #[Operand.tmp 9, Operand.tmp 11, Operand.const (Value.int IntKind.u32 0)], argTypes := #[23, 9, 66] }, type := 63, pos := "prg.go:77", after := #[{ on := 0, ground := Ground.data }, { on := 2, ground := Ground.data }, { on := 2, ground := Ground.chain }], guard := none }) (by kernel_rfl) rfl (fun K hK => ?_)
  go_simp
  refine (kb _).out.mono ?_
  rintro e w2 ⟨rfl, hb2⟩
  have hS2 : Below X.heap.size X w2 := hS1.trans (hb2.mono hS1.size)
  refine hK.out _ _ (fun _ _ => hS2) ?_
  clear hK K
  try simp only [Act.put, List.setIfInBounds_toArray, List.set_cons_zero, List.set_cons_succ]
  clear hb2 hS1
  refine take_p 4 8 (.tuple #[.string tb, .int .i64 0]) rfl rfl (by kernel_rfl) (by kernel_rfl) (by kernel_rfl) (fun _ _ _ h => h) rfl (fun w => by go_simp) ?_
  try simp only [List.setIfInBounds_toArray, List.set_cons_zero, List.set_cons_succ]
  refine take_p 5 13 (.string tb) rfl rfl (by kernel_rfl) (by kernel_rfl) (by kernel_rfl) (fun _ _ _ h => h) rfl (fun w => by go_simp) ?_
  try simp only [List.setIfInBounds_toArray, List.set_cons_zero, List.set_cons_succ]
  refine take_p 6 14 (.int .i64 0) rfl rfl (by kernel_rfl) (by kernel_rfl) (by kernel_rfl) (fun _ _ _ h => h) rfl (fun w => by go_simp) ?_
  try simp only [List.setIfInBounds_toArray, List.set_cons_zero, List.set_cons_succ]
  refine take_p 7 6 (.string tb) rfl rfl (by kernel_rfl) (by kernel_rfl) (by kernel_rfl) (fun _ _ _ h => h) rfl (fun w => by go_simp) ?_
  try simp only [List.setIfInBounds_toArray, List.set_cons_zero, List.set_cons_succ]
  refine take_p 8 7 (.int .i64 0) rfl rfl (by kernel_rfl) (by kernel_rfl) (by kernel_rfl) (fun _ _ _ h => h) rfl (fun w => by go_simp) ?_
  try simp only [List.setIfInBounds_toArray, List.set_cons_zero, List.set_cons_succ]
  refine done_f (by kernel_rfl) ?_ _
  have r1 := HR1.out _ hS2
  have r2 := HR2.out _ hS2
  have B2 := hide1 (XB.out.trans (hS2.mono XB.out.size))
  have R1 := hide1 r1
  have R2 := hide1 r2
  clear hS2 kn kb HR HR1 HR2 r1 r2
  have hcp := run_copy_text (w.heap.size + 1 + 1) 0 32 32 tb (u8s (zeros 32)) 23 R2.out 32 (by rw [htb]; rfl) (by rw [u8s_length, zeros_length]; omega)
  rw [show ((32 : Nat) : Int) = 32 from rfl] at hcp
  generalize hY : World.setRow w2 _ _ = Y at hcp
  have y2 : Y.heap[w.heap.size + 2]? = some (row8 23 cl) := by
    rw [← hY, setRow_heap _ _ _ _ _ _ R2.out, row8]
    congr 2
    rw [HC.out, HTb.out, splice]
    have h1 : (u8s (bl.take 32)).length = 32 := by rw [u8s_length, List.length_take, HLb.out]; rfl
    rw [h1]
    simp [u8s, zeros]
  have y1 : Y.heap[w.heap.size + 1]? = some (row8 23 (zeros 32)) := by rw [← hY, setRow_other _ _ _ _ (by omega)]; exact R1.out
  have yb : Below w.heap.size w Y := by rw [← hY]; exact Below.setRow' B2.out (by omega) _
  have Y1 := hide1 y1
  have Y2 := hide1 y2
  have YB := hide1 yb
  have hz0 : (u8s (zeros 32)).toArray.size = (u8s cl).toArray.size := by simp [u8s, zeros, HCl.out]
  have HZ0 := hide1 hz0
  clear hY y1 y2 yb R1 R2 B2 hz0
  go_upto_region 5 with (fail)
  clear hcp
  go_wp2_with (first | (refine wpList_load_row rfl 23 (.tmp 5) rfl (w.heap.size + 2) rfl 23 (u8s cl).toArray (0, 0) _ Y2.out hu rfl hi2 ?_) | (refine wpList_store_own rfl 23 (.tmp 4) (.tmp 20) rfl (w.heap.size + 1) rfl (u8s cl).toArray rfl 23 _ Y1.out hi2 HZ0.out (all_one (u8s_one _)) ?_) | fail)
  refine ret_row Try.results19 (w.heap.size + 1) 23 (u8s cl).toArray rfl (setRow_heap _ _ _ _ _ _ Y1.out) hu hi2 rfl ⟨rfl, ?_⟩
  exact Below.setRow' YB.out (by omega) _

set_option maxHeartbeats 2000000 in
theorem rchild_any (kl : List Nat) (y : Nat) (w : World) (hk : kl.length = 32) (bk : Lt 256 kl) (hy : y < 18446744073709551616) :
    Calls Try.prog 21 #[arr8 kl, .int .u64 (y : Int)] w fun e w' => e = .returned (arr8 (childP kl y)) ∧ Below w.heap.size w w' := by
  obtain ⟨L, hL⟩ : ∃ L, L = nonceP 4294967295 y := ⟨_, rfl⟩
  have HT : Shy (nums (txt (nonceP 4294967295 y)) = nonceP 4294967295 y) := ⟨nums_txt (nonceP_lt _ _)⟩
  have hts : (txt (nonceP 4294967295 y)).size = 12 := by rw [nums_size HT.out, nonceP_length]
  have kn := fun w => hide1 (rnonce_any 4294967295 y w (by omega) hy)
  have kb := fun w => hide1 (rblock_any kl (txt (nonceP 4294967295 y)) 0 w hk bk hts (by omega))
  rw [HT.out] at kb
  have HTb : Shy (nums (txt (blockP kl (nonceP 4294967295 y) 0)) = blockP kl (nonceP 4294967295 y) 0) := ⟨nums_txt (blockP_lt _ _ _)⟩
  have htb : (txt (blockP kl (nonceP 4294967295 y) 0)).size = 64 := by rw [nums_size HTb.out, blockP_length]
  have HLb : Shy ((blockP kl (nonceP 4294967295 y) 0).length = 64) := ⟨blockP_length _ _ _⟩
  have HC : Shy (childP kl y = (blockP kl (nonceP 4294967295 y) 0).take 32) := ⟨rfl⟩
  have HCl : Shy ((childP kl y).length = 32) := ⟨childP_length kl y⟩
  generalize txt (blockP kl (nonceP 4294967295 y) 0) = tb at *
  generalize txt (nonceP 4294967295 y) = tx at *
  generalize blockP kl (nonceP 4294967295 y) 0 = bl at *
  generalize childP kl y = cl at *
  have hu := Try.underlying23
  have hi : (Try.prog.info? 23).map (·.size) = some (u8s kl).toArray.size := by rw [show (u8s kl).toArray.size = 32 by simp [u8s, hk]]; kernel_rfl
  have hi2 : (Try.prog.info? 23).map (·.size) = some (u8s cl).toArray.size := by rw [show (u8s cl).toArray.size = 32 by simp [u8s, HCl.out]]; kernel_rfl
  clear hk bk HT hL L hts
  unfold arr8 at kb ⊢
  clear hy
  go_enter Try.func21, Try.ntmps21
  go_upto_region 1 with (fail)
  generalize hX : World.alloc (World.alloc w _) _ = X
  have x0 : X.heap[w.heap.size]? = some (row8 23 kl) := by rw [← hX]; exact heap_alloc2_old _ _ _
  have x1 : X.heap[w.heap.size + 1]? = some (row8 23 (zeros 32)) := by rw [← hX]; exact heap_alloc2_new _ _ _
  have xb : Below w.heap.size w X := by rw [← hX]; exact ((Below.refl _ _).alloc (Nat.le_refl _) _).alloc (by simp) _
  have HR : Hid (∀ w' : World, Below X.heap.size X w' → w'.heap[w.heap.size]? = some (row8 23 kl)) := fun w' hb => (hb.block _ (lt_heap x0)).trans x0
  have HR1 : Hid (∀ w' : World, Below X.heap.size X w' → w'.heap[w.heap.size + 1]? = some (row8 23 (zeros 32))) := fun w' hb => (hb.block _ (lt_heap x1)).trans x1
  have XB := hide1 xb
  have XS : Hid (w.heap.size + 1 < X.heap.size) := lt_heap x1
  clear hX x0 x1 xb
  refine region_f (F := []) (S := fun w' => Below X.heap.size X w') (by kernel_rfl) ((Below.refl _ _).drew) (fun hS => ?_)
  refine take_f 0 10 (.agg (u8s kl).toArray) [3, 4, 5, 6, 7, 8] rfl rfl (by kernel_rfl) (by kernel_rfl) (by kernel_rfl) (by kernel_rfl) (by kernel_rfl) (by kernel_rfl) (fun _ _ _ h => h) rfl (fun w hSw => by exact exec_load_row 23 (.tmp 2) rfl _ rfl 23 _ _ _ (HR.out _ hSw) hu hi) hS ?_
  try simp only [List.setIfInBounds_toArray, List.set_cons_zero, List.set_cons_succ]
  refine take_p 1 11 (.int .u64 (y : Int)) rfl rfl (by kernel_rfl) (by kernel_rfl) (by kernel_rfl) (fun _ _ _ h => h) rfl (fun w => by go_simp) ?_
  try simp only [List.setIfInBounds_toArray, List.set_cons_zero, List.set_cons_succ]
  refine ready_f 2 (o := { dst := some 12, op := Op.call { callee := Callee.value (Operand.func 30), args := #[Operand.const (Value.int IntKind.u32 4294967295), Operand.tmp 11], argTypes := #[66, 24] }, type := 9, pos := "ref.go:84", after := #[{ on := 1, ground := Ground.data }], guard := none }) (by kernel_rfl) rfl (fun K hK => ?_)
  go_simp
  refine (kn _).out.mono ?_
  rintro e w1 ⟨rfl, hb1⟩
  have hS1 : Below X.heap.size X w1 := hS.trans (hb1.mono hS.size)
  refine hK.out _ _ (fun _ _ => hS1) ?_
  clear hK K
  try simp only [Act.put, List.setIfInBounds_toArray, List.set_cons_zero, List.set_cons_succ]
  clear hb1 hS
  refine ready_f 3 (o := { dst := some 13, op := Op.call { callee := Callee.value (Operand.func 29), args := #[Operand.tmp 10, Operand.tmp 12, Operand.const (Value.int IntKind.u32 0)], argTypes := #[23, 9, 66] }, type := 68, pos := "ref.go:84", after := #[{ on := 0, ground := Ground.data }, { on := 2, ground := Ground.data }, { on := 2, ground := Ground.chain }], guard := none }) (by kernel_rfl) rfl (fun K hK => ?_)
  go_simp
  refine (kb _).out.mono ?_
  rintro e w2 ⟨rfl, hb2⟩
  have hS2 : Below X.heap.size X w2 := hS1.trans (hb2.mono hS1.size)
  refine hK.out _ _ (fun _ _ => hS2) ?_
  clear hK K
  try simp only [Act.put, List.setIfInBounds_toArray, List.set_cons_zero, List.set_cons_succ]
  clear hb2 hS1
  refine take_p 4 9 (.tuple #[.string tb, .int .i64 0]) rfl rfl (by kernel_rfl) (by kernel_rfl) (by kernel_rfl) (fun _ _ _ h => h) rfl (fun w => by go_simp) ?_
  try simp only [List.setIfInBounds_toArray, List.set_cons_zero, List.set_cons_succ]
  refine take_p 5 14 (.string tb) rfl rfl (by kernel_rfl) (by kernel_rfl) (by kernel_rfl) (fun _ _ _ h => h) rfl (fun w => by go_simp) ?_
  try simp only [List.setIfInBounds_toArray, List.set_cons_zero, List.set_cons_succ]
  refine take_p 6 15 (.int .i64 0) rfl rfl (by kernel_rfl) (by kernel_rfl) (by kernel_rfl) (fun _ _ _ h => h) rfl (fun w => by go_simp) ?_
  try simp only [List.setIfInBounds_toArray, List.set_cons_zero, List.set_cons_succ]
  refine take_p 7 5 (.string tb) rfl rfl (by kernel_rfl) (by kernel_rfl) (by kernel_rfl) (fun _ _ _ h => h) rfl (fun w => by go_simp) ?_
  try simp only [List.setIfInBounds_toArray, List.set_cons_zero, List.set_cons_succ]
  refine take_p 8 6 (.int .i64 0) rfl rfl (by kernel_rfl) (by kernel_rfl) (by kernel_rfl) (fun _ _ _ h => h) rfl (fun w => by go_simp) ?_
  try simp only [List.setIfInBounds_toArray, List.set_cons_zero, List.set_cons_succ]
  refine done_f (by kernel_rfl) ?_ _
  have R1 := hide1 (HR1.out _ hS2)
  have B2 := hide1 (XB.out.trans (hS2.mono XB.out.size))
  have HSz : Hid (w.heap.size + 1 < w2.heap.size) := by have h1 := XS.out; have h2 := hS2.size; show _ < _; omega
  clear hS2 kn kb HR HR1
  go_upto_region 3 with (fail)
  generalize hY : World.alloc w2 _ = Y
  have y0 : Y.heap[w2.heap.size]? = some (row8 23 (zeros 32)) := by rw [← hY]; exact heap_alloc_new _ _
  have y1 : Y.heap[w.heap.size + 1]? = some (row8 23 (zeros 32)) := by rw [← hY]; exact (heap_alloc_old _ _ HSz.out).trans R1.out
  have yb : Below w.heap.size w Y := by rw [← hY]; exact B2.out.alloc B2.out.size _
  obtain ⟨g, hg⟩ : ∃ g, g = w2.heap.size := ⟨_, rfl⟩
  rw [← hg] at y0 HSz ⊢
  have Y0 := hide1 y0
  have Y1 := hide1 y1
  have YB := hide1 yb
  clear hY y0 y1 yb hg R1 B2
  go_wp2
  go_loopw [8] (fun v wr => ∃ k : Nat, k ≤ 32 ∧ v = .int .i64 k ∧ wr.heap[g]? = some (row8 23 (cl.take k ++ zeros (32 - k))) ∧ wr.heap[w.heap.size + 1]? = some (row8 23 (zeros 32)) ∧ Below w.heap.size w wr) (fun v _ => 32 - (intOf v).toNat)
  case atStart => exact ⟨0, Nat.zero_le _, rfl, by rw [List.take_zero, List.nil_append, Nat.sub_zero]; exact Y0.out, Y1.out, YB.out⟩
  case round =>
    obtain ⟨k, hk, rfl, hrow, hr1, hbe⟩ := hrel
    by_cases hlt : k < 32
    · have hki : (k : Int) < 32 := by omega
      have hix := run_index tb k (by omega)
      rw [HTb.out] at hix
      have ea : at0 bl k = at0 cl k := by rw [HC.out, at0_take hlt]
      rw [ea] at hix
      have hl : (cl.take k ++ zeros (32 - k)).length = 32 := by rw [List.length_append, List.length_take, HCl.out, zeros_length]; omega
      have cu := cell8 hrow (j := k) (by rw [hl]; exact hlt)
      have fu := frozen_of_row wr g k _ _ hrow
      have HN : Shy ((cl.take k ++ zeros (32 - k)).set k (at0 cl k) = cl.take (k + 1) ++ zeros (32 - (k + 1))) := ⟨by
        have h1 : (cl.take k).length = k := by rw [List.length_take, HCl.out]; omega
        rw [List.set_append_right _ _ (by omega), h1, Nat.sub_self, show 32 - k = (32 - (k + 1)) + 1 by omega, zeros, List.replicate_succ, List.set_cons_zero, List.take_add_one, get_at0 (by rw [HCl.out]; exact hlt)]
        simp [zeros]⟩
      generalize at0 cl k = b at *
      have HRw := hide1 hrow
      have HR1 := hide1 hr1
      have HE := hide1 hbe
      clear hrow hr1 hbe hl ea
      go_wp2
      go_roundw
      case rel =>
        refine ⟨k + 1, by omega, by go_num, ?_, ?_, ?_⟩
        · rw [← HN.out]
          exact set8 HRw.out
        · exact (Below.heap_setCell _ _ _ _ (by have := HSz.out; simp; omega)).trans HR1.out
        · exact HE.out.setCell (by have := HSz.out; simp; omega) _
      case measure => simp [intOf]; omega
    · obtain rfl : k = 32 := by omega
      rw [show cl.take 32 ++ zeros (32 - 32) = cl by rw [List.take_of_length_le (by rw [HCl.out]; omega)]; simp [zeros]] at hrow
      have Y1 := hide1 hr1
      have Y2 := hide1 hrow
      have YB := hide1 hbe
      have HZ0 : Hid ((u8s (zeros 32)).toArray.size = (u8s cl).toArray.size) := by show _ = _; simp [u8s, zeros, HCl.out]
      clear hr1 hrow hbe
      go_wp2_with (first | (refine wpList_load_row rfl 23 (.tmp 7) rfl g rfl 23 (u8s cl).toArray (0, 0) _ Y2.out hu rfl hi2 ?_) | (refine wpList_store_own rfl 23 (.tmp 4) (.tmp 25) rfl (w.heap.size + 1) rfl (u8s cl).toArray rfl 23 _ Y1.out hi2 HZ0.out (all_one (u8s_one _)) ?_) | fail)
      exact ret_row Try.results21 (w.heap.size + 1) 23 (u8s cl).toArray rfl (setRow_heap _ _ _ _ _ _ Y1.out) hu hi2 rfl ⟨rfl, Below.setRow' YB.out (by omega) _⟩
end Go.Proofs.Ytpigbhmamaghgaa.Pg
