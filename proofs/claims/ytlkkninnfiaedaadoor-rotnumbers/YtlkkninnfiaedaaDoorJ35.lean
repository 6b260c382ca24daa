/- Deal. -/
import Derived.Test.YtlkkninnfiaedaaDoorJ34
namespace Go.Proofs.YtlkkninnfiaedaaDoor
open Go.RowKit Pg
set_option maxRecDepth 100000
attribute [local go_sem] not_any

theorem dir_sds (kl : List Nat) (w : World) (hk : kl.length = 32) (bk : Lt 256 kl) :
    Calls Tryd.prog 43 #[.agg (u8s kl).toArray] w fun e w' => ∃ gk gz go, e = .returned (.tuple #[.agg #[.int .u64 (wd kl 9 0 : Nat), .int .u64 (wd kl 9 1 : Nat), .slice (some ⟨gk, 0, none⟩) 128 128], .agg #[.slice (some ⟨gz, 0, none⟩) 128 128, .slice (some ⟨go, 0, none⟩) 128 128]])
      ∧ w'.heap[gk]? = some (srow (dk kl) 128) ∧ w'.heap[gz]? = some (srow (dz kl) 128) ∧ w'.heap[go]? = some (srow (dn kl) 128) ∧ Below w.heap.size w w' := direction_any kl w hk bk
theorem at_drew {w : World} {g : Nat} {o : Obj} (h : w.heap[g]? = some o) : w.drew.heap[g]? = some o := h
theorem ne_row {w : World} {g h : Nat} {l : List Nat} {cs : Array Value} (h1 : w.heap[g]? = some (row8 28 l)) (h2 : w.heap[h]? = some (.cells cs 66 (0, 0))) : g ≠ h := fun e => by
  rw [e, h2] at h1
  injection h1 with h1
  injection h1 with _ h1 _
  exact absurd h1 (by decide)
/- a row in which three cells are set from the first on, or two from the fourth on -/
theorem set3 {w : World} {g : Nat} {a b c d e x y z : Value} {t : TypeId} (h : w.heap[g]? = some (.cells #[a, b, c, d, e] t (0, 0))) : (w.setCells g 0 [x, y, z]).heap[g]? = some (.cells #[x, y, z, d, e] t (0, 0)) := by
  rw [setCells_row [x, y, z] 0 w [a, b, c, d, e] h]
  rfl
theorem set2 {w : World} {g : Nat} {a b c d e x y : Value} {t : TypeId} (h : w.heap[g]? = some (.cells #[a, b, c, d, e] t (0, 0))) : (w.setCells g 3 [x, y]).heap[g]? = some (.cells #[a, b, c, x, y] t (0, 0)) := by
  rw [setCells_row [x, y] 3 w [a, b, c, d, e] h]
  rfl
theorem there5 {w : World} {g : Nat} {a b c d e : Value} {t : TypeId} (h : w.heap[g]? = some (.cells #[a, b, c, d, e] t (0, 0))) {o n : Nat} (ho : o + n ≤ 5) : w.there g o n := fun j hj => by
  refine ⟨?_, frozen_of_row w g _ _ _ h⟩
  rw [cell_of_row w g _ _ _ _ h]
  have : o + j < 5 := by omega
  simp [this]
theorem ret_view {fn : Func} {p u : Tmp} (h : fn.results = #[.cell p 66, .cell u 66]) {R : Ending → World → Prop} {a : Act} {w : World} (g gu : Nat) (cs cu : Array Value) (hp : a.tmps.getD p undef = .pointer (some ⟨g, 0, none⟩)) (hu : a.tmps.getD u undef = .pointer (some ⟨gu, 0, none⟩))
    (hg : w.heap[g]? = some (.cells cs 66 (0, 0))) (hgu : w.heap[gu]? = some (.cells cu 66 (0, 0))) (hip : (Tryd.prog.info? 66).map (·.size) = some cs.size) (hiu : (Tryd.prog.info? 66).map (·.size) = some cu.size) (hd : a.defers = []) (hR : R (.returned (.tuple #[.agg cs, .agg cu])) w) : bodyPost Tryd.prog fn R .ret a w := by
  refine bodyPost_ret_by (v := .tuple #[.agg cs, .agg cu]) ?_ hd hR
  have hl := run_loadVar_row (P := Tryd.prog) w g _ 66 cs (0, 0) _ hg Tryd.underlying66 rfl hip
  have hl2 := run_loadVar_row (P := Tryd.prog) w gu _ 66 cu (0, 0) _ hgu Tryd.underlying66 rfl hiu
  have hp' : a.tmps[p]?.getD undef = .pointer (some ⟨g, 0, none⟩) := by simpa using hp
  have hu' : a.tmps[u]?.getD undef = .pointer (some ⟨gu, 0, none⟩) := by simpa using hu
  simp [results, h, hp', hu', asAddr, hl, hl2]

theorem two_more {w1 Y : World} {c0 cs : Array Value} {t : TypeId} {A B : Obj} (h : ((((w1.alloc (.cells c0 t (0, 0))).setRow w1.heap.size cs).alloc A).alloc B) = Y) :
    Y.heap[w1.heap.size]? = some (.cells cs t (0, 0)) ∧ Y.heap[w1.heap.size + 1]? = some A ∧ Y.heap[w1.heap.size + 1 + 1]? = some B ∧ Below w1.heap.size w1 Y := by
  have hsz : ((w1.alloc (.cells c0 t (0, 0))).setRow w1.heap.size cs).heap.size = w1.heap.size + 1 := by simp [World.setRow]
  have h0 := setRow_heap (w1.alloc (.cells c0 t (0, 0))) w1.heap.size _ cs _ _ (heap_alloc_new w1 _)
  have hb : Below w1.heap.size w1 ((w1.alloc (.cells c0 t (0, 0))).setRow w1.heap.size cs) := Below.setRow' ((Below.refl _ _).alloc (Nat.le_refl _) _) (Nat.le_refl _) _
  generalize World.setRow _ w1.heap.size cs = V at *
  subst h
  have e2 := heap_alloc2_old V A B
  have e3 := heap_alloc2_new V A B
  rw [hsz] at e2 e3
  refine ⟨?_, e2, e3, (hb.alloc (by omega) _).alloc (by rw [size_alloc]; omega) _⟩
  rw [heap_alloc_old _ _ (by rw [size_alloc]; omega), heap_alloc_old _ _ (by omega)]
  exact h0
/- what Deal answers -/
def rt0 (kl : List Nat) (y : Nat) : List Nat := childP (childP kl y) 0
def rt1 (kl : List Nat) (y : Nat) : List Nat := childP (childP kl y) 1
set_option maxHeartbeats 4000000 in
theorem deal_any2 (kl : List Nat) (y : Nat) (w : World) (hk : kl.length = 32) (bk : Lt 256 kl) (hy : y < 18446744073709551616) :
    Calls Tryd.prog 26 #[arr8 kl, .int .u64 (y : Int)] w fun e w' => ∃ K0 Z0 O0 K1 Z1 O1, e = .returned (.tuple #[.agg #[.int .u64 (wd (rt0 kl y) 9 0 : Nat), .int .u64 (wd (rt0 kl y) 9 1 : Nat), K0, Z1, O1], .agg #[.int .u64 (wd (rt1 kl y) 9 0 : Nat), .int .u64 (wd (rt1 kl y) 9 1 : Nat), K1, Z0, O0]])
      ∧ Sds w' K0 (dk (rt0 kl y)) 128 ∧ Sds w' Z0 (dz (rt0 kl y)) 128 ∧ Sds w' O0 (dn (rt0 kl y)) 128 ∧ Sds w' K1 (dk (rt1 kl y)) 128 ∧ Sds w' Z1 (dz (rt1 kl y)) 128 ∧ Sds w' O1 (dn (rt1 kl y)) 128 ∧ Below w.heap.size w w' ∧ ∃ g, O1 = .slice (some ⟨g, 0, none⟩) 128 128 := by
  have k0 : ∀ w, Hid (Calls Tryd.prog 42 #[.agg (u8s kl).toArray, .int .u64 (y : Int)] w fun e w' => e = .returned (.agg (u8s (childP kl y)).toArray) ∧ Below w.heap.size w w') := fun w => child_any kl y w hk bk hy
  have hrl := childP_length kl y
  have hrt := childP_lt kl y
  have k1 : ∀ w, Hid (Calls Tryd.prog 42 #[.agg (u8s (childP kl y)).toArray, .int .u64 0] w fun e w' => e = .returned (.agg (u8s (rt0 kl y)).toArray) ∧ Below w.heap.size w w') := fun w => child_any (childP kl y) 0 w hrl hrt (by omega)
  have k2 : ∀ w, Hid (Calls Tryd.prog 42 #[.agg (u8s (childP kl y)).toArray, .int .u64 1] w fun e w' => e = .returned (.agg (u8s (rt1 kl y)).toArray) ∧ Below w.heap.size w w') := fun w => child_any (childP kl y) 1 w hrl hrt (by omega)
  have kd0 := fun w => hide1 (dir_sds (rt0 kl y) w (childP_length _ _) (childP_lt _ _))
  have kd1 := fun w => hide1 (dir_sds (rt1 kl y) w (childP_length _ _) (childP_lt _ _))
  have hi := hi23 hk
  have hir := hi23 hrl
  have hzr : Shy ((u8s (zeros 32)).toArray.size = (u8s (childP kl y)).toArray.size) := ⟨by simp [u8s, zeros, hrl]⟩
  have HL : Shy ((∀ i, (dk (rt0 kl y) i).length = 32) ∧ (∀ i, (dz (rt0 kl y) i).length = 32) ∧ (∀ i, (dn (rt0 kl y) i).length = 32) ∧ (∀ i, (dk (rt1 kl y) i).length = 32) ∧ (∀ i, (dz (rt1 kl y) i).length = 32) ∧ ∀ i, (dn (rt1 kl y) i).length = 32) := ⟨⟨dk_len _, dz_len _, dn_len _, dk_len _, dz_len _, dn_len _⟩⟩
  generalize wd (rt0 kl y) 9 0 = x0 at *
  generalize wd (rt0 kl y) 9 1 = y0 at *
  generalize wd (rt1 kl y) 9 0 = x1 at *
  generalize wd (rt1 kl y) 9 1 = y1 at *
  generalize dk (rt0 kl y) = fk0 at *
  generalize dz (rt0 kl y) = fz0 at *
  generalize dn (rt0 kl y) = fo0 at *
  generalize dk (rt1 kl y) = fk1 at *
  generalize dz (rt1 kl y) = fz1 at *
  generalize dn (rt1 kl y) = fo1 at *
  generalize rt0 kl y = r0 at *
  generalize rt1 kl y = r1 at *
  generalize childP kl y = rr at *
  clear hk bk hy hrl hrt
  unfold arr8
  go_enter Tryd.func26, Tryd.ntmps26
  go_upto_region 1 with (fail)
  generalize hX : World.alloc (World.alloc (World.alloc w _) _) _ = X
  obtain ⟨x0', x1', x2', xb, xs⟩ := three_at hX
  have X0 : Hid (X.heap[w.heap.size]? = some (row8 28 kl)) := x0'
  have X1 := hide1 x1'
  have X2 := hide1 x2'
  have XB := hide1 xb
  have XS := hide1 xs
  clear hX x0' x1' x2' xb xs
  go_wp2_with (first | (refine wpList_load_row rfl 28 (.tmp 2) rfl w.heap.size rfl 28 (u8s kl).toArray (0, 0) _ X0.out Tryd.underlying28 rfl hi ?_) | fail)
  go_at_call 42
  refine (k0 _).out.mono ?_
  rintro e w1 ⟨rfl, hb1⟩
  have B1 := hide1 (XB.out.trans (hb1.mono XB.out.size))
  have A1 := hide1 ((hb1.block _ (lt_heap X1.out)).trans X1.out)
  have A2 := hide1 ((hb1.block _ (lt_heap X2.out)).trans X2.out)
  clear hb1 X0 X1 X2 XB XS k0
  go_upto_region 3 with (first | (refine wpList_store_own rfl 28 (.tmp 6) (.tmp 11) rfl w1.heap.size rfl (u8s rr).toArray rfl 28 _ (heap_alloc_new w1 (row8 28 (zeros 32))) hir hzr.out (all_one (u8s_one _)) ?_) | fail)
  generalize hY : World.alloc (World.alloc (World.setRow _ w1.heap.size _) _) _ = Y
  obtain ⟨y6, y7, y8, yb⟩ := two_more hY
  have Y6 : Hid (Y.heap[w1.heap.size]? = some (row8 28 rr)) := y6
  have Y7 := hide1 y7
  have Y8 := hide1 y8
  have Y4 := hide1 ((yb.block _ (lt_heap A1.out)).trans A1.out)
  have Y5 := hide1 ((yb.block _ (lt_heap A2.out)).trans A2.out)
  have YB := hide1 (B1.out.trans (yb.mono (show w.heap.size ≤ w1.heap.size by have := lt_heap A1.out; omega)))
  have HO' : Shy (w.heap.size + 2 < w1.heap.size + 1) := ⟨by have := lt_heap A2.out; omega⟩
  clear hY y6 y7 y8 yb A1 A2 B1
  obtain ⟨g6, hg6⟩ : ∃ g, g = w1.heap.size := ⟨_, rfl⟩
  obtain ⟨g7, hg7⟩ : ∃ g, g = w1.heap.size + 1 := ⟨_, rfl⟩
  obtain ⟨g8, hg8⟩ : ∃ g, g = w1.heap.size + 1 + 1 := ⟨_, rfl⟩
  rw [← hg8, ← hg7, ← hg6]
  rw [← hg6] at Y6
  rw [← hg7] at Y7
  rw [← hg8] at Y8
  have HO : Shy (w.heap.size + 2 < g7 ∧ w.heap.size + 2 < g8 ∧ g7 ≠ g8) := ⟨by have := HO'.out; omega⟩
  clear hg6 hg7 hg8 HO' w1
  go_wp2_with (first | (refine wpList_load_row rfl 28 (.tmp 6) rfl g6 rfl 28 (u8s rr).toArray (0, 0) _ Y6.out Tryd.underlying28 rfl hir ?_) | fail)
  go_at_call 42
  refine (k1 _).out.mono ?_
  rintro e w2 ⟨rfl, hb2⟩
  go_wp2_with fail
  go_at_call 43
  refine (kd0 _).out.mono ?_
  rintro e w3 ⟨gk0, gz0, go0, rfl, hk0, hz0, ho0, hb3⟩
  have hb := hb2.trans (hb3.mono hb2.size)
  have q : ∀ {g : Nat} {o : Obj}, Y.heap[g]? = some o → w3.heap[g]? = some o := fun hg => (hb.block _ (lt_heap hg)).trans hg
  have W6 := hide1 (q Y6.out)
  have W7 := hide1 (q Y7.out)
  have W8 := hide1 (q Y8.out)
  have W4 := hide1 (q Y4.out)
  have W5 := hide1 (q Y5.out)
  have WB := hide1 (YB.out.trans (hb.mono (show w.heap.size ≤ Y.heap.size by have := lt_heap Y4.out; omega)))
  have WK := hide1 hk0
  have WZ := hide1 hz0
  have WO := hide1 ho0
  have HT7 : Hid (w3.there g7 0 3) := there5 W7.out (by decide)
  have HT8 : Hid (∀ o vs, (w3.setCells g7 o vs).there g8 3 2) := fun o vs => there5 ((setCells_other (fun e => HO.out.2.2 e.symm) _ _ _).trans W8.out) (by decide)
  clear hb hb2 hb3 hk0 hz0 ho0 q Y6 Y7 Y8 Y4 Y5 YB k1 kd0
  go_upto_region 4 with (first | (refine wpList_store_mid rfl 62 (.tmp 18) (.tmp 16) rfl g7 0 #[.int .u64 (x0 : Int), .int .u64 (y0 : Int), .slice (some ⟨gk0, 0, none⟩) 128 128] rfl rfl HT7.out (by kernel_rfl) (by simp [Value.oneCell']) ?_) | (refine wpList_store_mid rfl 64 (.tmp 19) (.tmp 17) rfl g8 3 #[.slice (some ⟨gz0, 0, none⟩) 128 128, .slice (some ⟨go0, 0, none⟩) 128 128] rfl rfl (HT8.out _ _) (by kernel_rfl) (by simp [Value.oneCell']) ?_) | fail)
  generalize hV : World.setCells (World.setCells w3 g7 _ _) g8 _ _ = V
  have v7 : V.heap[g7]? = some (.cells #[.int .u64 (x0 : Int), .int .u64 (y0 : Int), .slice (some ⟨gk0, 0, none⟩) 128 128, .slice none 0 0, .slice none 0 0] 66 (0, 0)) := by rw [← hV]; exact (setCells_other HO.out.2.2 _ _ _).trans (set3 W7.out)
  have v8 : V.heap[g8]? = some (.cells #[.int .u64 0, .int .u64 0, .slice none 0 0, .slice (some ⟨gz0, 0, none⟩) 128 128, .slice (some ⟨go0, 0, none⟩) 128 128] 66 (0, 0)) := by rw [← hV]; exact set2 ((setCells_other (fun e => HO.out.2.2 e.symm) _ _ _).trans W8.out)
  have q : ∀ {g : Nat} {o : Obj}, g ≠ g7 → g ≠ g8 → w3.heap[g]? = some o → V.heap[g]? = some o := fun h1 h2 hg => by rw [← hV]; exact (setCells_other h2 _ _ _).trans ((setCells_other h1 _ _ _).trans hg)
  have hVB : Below w.heap.size w V := by rw [← hV]; exact below_setCells (by have := HO.out; omega) _ _ _ (below_setCells (by have := HO.out; omega) _ _ _ WB.out)
  have V6 := hide1 (q (ne_row W6.out W7.out) (ne_row W6.out W8.out) W6.out)
  have V7 := hide1 v7
  have V8 := hide1 v8
  have V4 := hide1 (q (by have := HO.out; omega) (by have := HO.out; omega) W4.out)
  have V5 := hide1 (q (by have := HO.out; omega) (by have := HO.out; omega) W5.out)
  have VK := hide1 (q (ne_row WK.out W7.out) (ne_row WK.out W8.out) WK.out)
  have VZ := hide1 (q (ne_row WZ.out W7.out) (ne_row WZ.out W8.out) WZ.out)
  have VO := hide1 (q (ne_row WO.out W7.out) (ne_row WO.out W8.out) WO.out)
  have VB := hide1 hVB
  clear hV v7 v8 q hVB W6 W7 W8 W4 W5 WB WK WZ WO HT7 HT8
  go_wp2_with (first | (refine wpList_load_row rfl 28 (.tmp 6) rfl g6 rfl 28 (u8s rr).toArray (0, 0) _ V6.out Tryd.underlying28 rfl hir ?_) | fail)
  go_at_call 42
  refine (k2 _).out.mono ?_
  rintro e w4 ⟨rfl, hb2⟩
  go_wp2_with fail
  go_at_call 43
  refine (kd1 _).out.mono ?_
  rintro e w5 ⟨gk1, gz1, go1, rfl, hk0, hz0, ho0, hb3⟩
  have hb := hb2.trans (hb3.mono hb2.size)
  have q : ∀ {g : Nat} {o : Obj}, V.heap[g]? = some o → w5.heap[g]? = some o := fun hg => (hb.block _ (lt_heap hg)).trans hg
  have W7 := hide1 (q V7.out)
  have W8 := hide1 (q V8.out)
  have W4 := hide1 (q V4.out)
  have W5 := hide1 (q V5.out)
  have W0K := hide1 (q VK.out)
  have W0Z := hide1 (q VZ.out)
  have W0O := hide1 (q VO.out)
  have WB := hide1 (VB.out.trans (hb.mono (show w.heap.size ≤ V.heap.size by have := lt_heap V4.out; omega)))
  have WK := hide1 hk0
  have WZ := hide1 hz0
  have WO := hide1 ho0
  have HT8 : Hid (w5.there g8 0 3) := there5 W8.out (by decide)
  have HT7 : Hid (∀ o vs, (w5.setCells g8 o vs).there g7 3 2) := fun o vs => there5 ((setCells_other HO.out.2.2 _ _ _).trans W7.out) (by decide)
  clear hb hb2 hb3 hk0 hz0 ho0 q V6 V7 V8 V4 V5 VB VK VZ VO k2 kd1
  go_upto_region 5 with (first | (refine wpList_store_mid rfl 62 (.tmp 26) (.tmp 24) rfl g8 0 #[.int .u64 (x1 : Int), .int .u64 (y1 : Int), .slice (some ⟨gk1, 0, none⟩) 128 128] rfl rfl HT8.out (by kernel_rfl) (by simp [Value.oneCell']) ?_) | (refine wpList_store_mid rfl 64 (.tmp 27) (.tmp 25) rfl g7 3 #[.slice (some ⟨gz1, 0, none⟩) 128 128, .slice (some ⟨go1, 0, none⟩) 128 128] rfl rfl (HT7.out _ _) (by kernel_rfl) (by simp [Value.oneCell']) ?_) | fail)
  generalize hV : World.setCells (World.setCells w5 g8 _ _) g7 _ _ = U
  obtain ⟨K0, hK0⟩ : ∃ v, v = Value.slice (some ⟨gk0, 0, none⟩) 128 128 := ⟨_, rfl⟩
  obtain ⟨Z0, hZ0⟩ : ∃ v, v = Value.slice (some ⟨gz0, 0, none⟩) 128 128 := ⟨_, rfl⟩
  obtain ⟨O0, hO0⟩ : ∃ v, v = Value.slice (some ⟨go0, 0, none⟩) 128 128 := ⟨_, rfl⟩
  obtain ⟨K1, hK1⟩ : ∃ v, v = Value.slice (some ⟨gk1, 0, none⟩) 128 128 := ⟨_, rfl⟩
  obtain ⟨Z1, hZ1⟩ : ∃ v, v = Value.slice (some ⟨gz1, 0, none⟩) 128 128 := ⟨_, rfl⟩
  obtain ⟨O1, hO1⟩ : ∃ v, v = Value.slice (some ⟨go1, 0, none⟩) 128 128 := ⟨_, rfl⟩
  have HO1 : Hid (∃ g, O1 = Value.slice (some ⟨g, 0, none⟩) 128 128) := ⟨_, hO1⟩
  have v7 : U.heap[g7]? = some (.cells #[.int .u64 (x0 : Int), .int .u64 (y0 : Int), K0, Z1, O1] 66 (0, 0)) := by rw [← hV, hK0, hZ1, hO1]; exact set2 ((setCells_other HO.out.2.2 _ _ _).trans W7.out)
  have v8 : U.heap[g8]? = some (.cells #[.int .u64 (x1 : Int), .int .u64 (y1 : Int), K1, Z0, O0] 66 (0, 0)) := by rw [← hV, hK1, hZ0, hO0]; exact (setCells_other (fun e => HO.out.2.2 e.symm) _ _ _).trans (set3 W8.out)
  have q : ∀ {g : Nat} {o : Obj}, g ≠ g7 → g ≠ g8 → w5.heap[g]? = some o → U.heap[g]? = some o := fun h1 h2 hg => by rw [← hV]; exact (setCells_other h1 _ _ _).trans ((setCells_other h2 _ _ _).trans hg)
  have hVB : Below w.heap.size w U := by rw [← hV]; exact below_setCells (by have := HO.out; omega) _ _ _ (below_setCells (by have := HO.out; omega) _ _ _ WB.out)
  have R7 := hide1 v7
  have R8 := hide1 v8
  have R4 := hide1 (q (by have := HO.out; omega) (by have := HO.out; omega) W4.out)
  have R5 := hide1 (q (by have := HO.out; omega) (by have := HO.out; omega) W5.out)
  have q2 : ∀ {g : Nat} {f : Nat → List Nat} (c d : Array Value), (∀ i, (f i).length = 32) → w5.heap[g]? = some (srow f 128) → Sds ((U.setRow (w.heap.size + 1) c).setRow (w.heap.size + 1 + 1) d).drew (.slice (some ⟨g, 0, none⟩) 128 128) f 128 := fun c d hf hg => by
    have hu := q (ne_row hg W7.out) (ne_row hg W8.out) hg
    exact sds_row hf (at_drew ((setRow_other _ _ _ _ (ne_row hu R5.out)).trans ((setRow_other _ _ _ _ (ne_row hu R4.out)).trans hu)))
  have HQ : Hid (∀ c d : Array Value, Sds ((U.setRow (w.heap.size + 1) c).setRow (w.heap.size + 1 + 1) d).drew K0 fk0 128 ∧ Sds ((U.setRow (w.heap.size + 1) c).setRow (w.heap.size + 1 + 1) d).drew Z0 fz0 128 ∧ Sds ((U.setRow (w.heap.size + 1) c).setRow (w.heap.size + 1 + 1) d).drew O0 fo0 128 ∧ Sds ((U.setRow (w.heap.size + 1) c).setRow (w.heap.size + 1 + 1) d).drew K1 fk1 128 ∧ Sds ((U.setRow (w.heap.size + 1) c).setRow (w.heap.size + 1 + 1) d).drew Z1 fz1 128 ∧ Sds ((U.setRow (w.heap.size + 1) c).setRow (w.heap.size + 1 + 1) d).drew O1 fo1 128) := fun c d => by
    rw [hK0, hZ0, hO0, hK1, hZ1, hO1]
    exact ⟨q2 c d HL.out.1 W0K.out, q2 c d HL.out.2.1 W0Z.out, q2 c d HL.out.2.2.1 W0O.out, q2 c d HL.out.2.2.2.1 WK.out, q2 c d HL.out.2.2.2.2.1 WZ.out, q2 c d HL.out.2.2.2.2.2 WO.out⟩
  have HC0 : Shy ((#[.int .u64 (x0 : Int), .int .u64 (y0 : Int), K0, Z1, O1] : Array Value).all (·.oneCell') = true) := ⟨by rw [hK0, hZ1, hO1]; simp [Value.oneCell']⟩
  have HC1 : Shy ((#[.int .u64 (x1 : Int), .int .u64 (y1 : Int), K1, Z0, O0] : Array Value).all (·.oneCell') = true) := ⟨by rw [hK1, hZ0, hO0]; simp [Value.oneCell']⟩
  have RBU := hide1 hVB
  clear hV v7 v8 q q2 hVB W7 W8 W4 W5 WB WK WZ WO W0K W0Z W0O HT7 HT8 hK0 hZ0 hO0 hK1 hZ1 hO1
  refine region_f (F := []) (S := fun w' => w'.heap[g7]? = some (.cells #[.int .u64 (x0 : Int), .int .u64 (y0 : Int), K0, Z1, O1] 66 (0, 0)) ∧ w'.heap[g8]? = some (.cells #[.int .u64 (x1 : Int), .int .u64 (y1 : Int), K1, Z0, O0] 66 (0, 0))) (by kernel_rfl) ⟨at_drew R7.out, at_drew R8.out⟩ (fun hS => ?_)
  refine take_f 0 28 (.agg #[.int .u64 (x0 : Int), .int .u64 (y0 : Int), K0, Z1, O1]) [2, 3] rfl rfl (by kernel_rfl) (by kernel_rfl) (by kernel_rfl) (by kernel_rfl) (by kernel_rfl) (by kernel_rfl) (fun _ _ _ h => h) rfl (fun w hSw => by exact exec_load_box 66 (.tmp 7) rfl _ rfl 66 _ _ hSw.1 Tryd.underlying66 rfl (by kernel_rfl)) hS ?_
  try simp only [List.setIfInBounds_toArray, List.set_cons_zero, List.set_cons_succ]
  refine take_f 1 29 (.agg #[.int .u64 (x1 : Int), .int .u64 (y1 : Int), K1, Z0, O0]) [3] rfl rfl (by kernel_rfl) (by kernel_rfl) (by kernel_rfl) (by kernel_rfl) (by kernel_rfl) (by kernel_rfl) (fun _ _ _ h => h) rfl (fun w hSw => by exact exec_load_box 66 (.tmp 8) rfl _ rfl 66 _ _ hSw.2 Tryd.underlying66 rfl (by kernel_rfl)) hS ?_
  try simp only [List.setIfInBounds_toArray, List.set_cons_zero, List.set_cons_succ]
  refine ready_f 2 (o := { dst := none, op := Op.store 66 (Operand.tmp 4) (Operand.tmp 28), type := 0, pos := "baseot.go:46", after := #[{ on := 0, ground := Ground.data }, { on := 0, ground := Ground.phase }, { on := 1, ground := Ground.textOnly Departure.lateStores }], guard := none }) (by kernel_rfl) rfl (fun K hK => ?_)
  rw [if_pos (by rfl)]
  refine wp_store_row 66 _ _ rfl (w.heap.size + 1) _ rfl rfl 66 _ (at_drew R4.out) (by kernel_rfl) (by simp) HC0.out ?_
  refine hK.out _ _ (fun _ h => ⟨(setRow_other _ _ _ _ (by have := HO.out; omega)).trans h.1, (setRow_other _ _ _ _ (by have := HO.out; omega)).trans h.2⟩) ?_
  clear hK K
  refine ready_f 3 (o := { dst := none, op := Op.store 66 (Operand.tmp 5) (Operand.tmp 29), type := 0, pos := "baseot.go:46", after := #[{ on := 1, ground := Ground.data }, { on := 2, ground := Ground.chain }, { on := 0, ground := Ground.phase }, { on := 1, ground := Ground.phase }, { on := 2, ground := Ground.phase }], guard := none }) (by kernel_rfl) rfl (fun K hK => ?_)
  rw [if_pos (by rfl)]
  refine wp_store_row 66 _ _ rfl (w.heap.size + 1 + 1) _ rfl rfl 66 _ ((setRow_other _ _ _ _ (by omega)).trans (at_drew R5.out)) (by kernel_rfl) (by simp) HC1.out ?_
  refine hK.out _ _ (fun _ h => ⟨(setRow_other _ _ _ _ (by have := HO.out; omega)).trans h.1, (setRow_other _ _ _ _ (by have := HO.out; omega)).trans h.2⟩) ?_
  clear hK K
  refine done_f (by kernel_rfl) ?_ _
  have e1 : ∀ (c d : Array Value), (U.drew.setRow (w.heap.size + 1) c).setRow (w.heap.size + 1 + 1) d = ((U.setRow (w.heap.size + 1) c).setRow (w.heap.size + 1 + 1) d).drew := fun c d => by rw [drew_setRow, drew_setRow]
  have f4 := setRow_heap U (w.heap.size + 1) _ #[.int .u64 (x0 : Int), .int .u64 (y0 : Int), K0, Z1, O1] _ _ R4.out
  have f5 := setRow_heap (U.setRow (w.heap.size + 1) #[.int .u64 (x0 : Int), .int .u64 (y0 : Int), K0, Z1, O1]) (w.heap.size + 1 + 1) _ #[.int .u64 (x1 : Int), .int .u64 (y1 : Int), K1, Z0, O0] _ _ ((setRow_other _ _ _ _ (by omega)).trans R5.out)
  have f4' := (setRow_other (U.setRow (w.heap.size + 1) #[.int .u64 (x0 : Int), .int .u64 (y0 : Int), K0, Z1, O1]) (w.heap.size + 1 + 1) (w.heap.size + 1) #[.int .u64 (x1 : Int), .int .u64 (y1 : Int), K1, Z0, O0] (by omega)).trans f4
  have hq := HQ.out #[.int .u64 (x0 : Int), .int .u64 (y0 : Int), K0, Z1, O1] #[.int .u64 (x1 : Int), .int .u64 (y1 : Int), K1, Z0, O0]
  have hB := Below.setRow' (Below.setRow' RBU.out (show w.heap.size ≤ w.heap.size + 1 by omega) #[.int .u64 (x0 : Int), .int .u64 (y0 : Int), K0, Z1, O1]) (show w.heap.size ≤ w.heap.size + 1 + 1 by omega) #[.int .u64 (x1 : Int), .int .u64 (y1 : Int), K1, Z0, O0]
  rw [e1]
  go_wp2
  refine ret_view Tryd.results26 (w.heap.size + 1) (w.heap.size + 1 + 1) _ _ rfl rfl (at_drew f4') (at_drew f5) (by kernel_rfl) (by kernel_rfl) rfl ?_
  exact ⟨K0, Z0, O0, K1, Z1, O1, rfl, hq.1, hq.2.1, hq.2.2.1, hq.2.2.2.1, hq.2.2.2.2.1, hq.2.2.2.2.2, hB.drew, HO1.out⟩
theorem deal_any (kl : List Nat) (y : Nat) (w : World) (hk : kl.length = 32) (bk : Lt 256 kl) (hy : y < 18446744073709551616) :
    Calls Tryd.prog 26 #[arr8 kl, .int .u64 (y : Int)] w fun e w' => ∃ K0 Z0 O0 K1 Z1 O1, e = .returned (.tuple #[.agg #[.int .u64 (wd (rt0 kl y) 9 0 : Nat), .int .u64 (wd (rt0 kl y) 9 1 : Nat), K0, Z1, O1], .agg #[.int .u64 (wd (rt1 kl y) 9 0 : Nat), .int .u64 (wd (rt1 kl y) 9 1 : Nat), K1, Z0, O0]])
      ∧ Sds w' K0 (dk (rt0 kl y)) 128 ∧ Sds w' Z0 (dz (rt0 kl y)) 128 ∧ Sds w' O0 (dn (rt0 kl y)) 128 ∧ Sds w' K1 (dk (rt1 kl y)) 128 ∧ Sds w' Z1 (dz (rt1 kl y)) 128 ∧ Sds w' O1 (dn (rt1 kl y)) 128 ∧ Below w.heap.size w w' :=
  (deal_any2 kl y w hk bk hy).mono fun _ _ ⟨K0, Z0, O0, K1, Z1, O1, he, h1, h2, h3, h4, h5, h6, hb, _⟩ => ⟨K0, Z0, O0, K1, Z1, O1, he, h1, h2, h3, h4, h5, h6, hb⟩
end Go.Proofs.YtlkkninnfiaedaaDoor
