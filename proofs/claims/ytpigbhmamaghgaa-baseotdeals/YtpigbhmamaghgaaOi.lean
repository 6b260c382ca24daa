/- The document's Direction: its walk. -/
import Derived.Test.YtpigbhmamaghgaaOh
import Derived.Deep.AppendLies
namespace Go.Proofs.Ytpigbhmamaghgaa
open Go.RowKit Pg
set_option maxRecDepth 100000
attribute [local go_sem] not_any

theorem exec_build_seed {o : Oper} {a : Act} {w : World} {s : List Nat} (x : Operand) (ho : o.op = .buildSlice 27 1 #[(0, x)]) (hx : a.eval x = .agg (u8s s).toArray) (hl : s.length = 32) :
    (execOp a.eval o).run Try.prog w = .ok (.value (.slice (some ⟨w.heap.size, 0, none⟩) 1 1)) (w.alloc (row8 23 s)) := by
  unfold execOp
  simp [ho, hx, run_build_seed s hl]

theorem wpList_build_seed {ops : Array Oper} {rest : List Oper} {o : Oper} {a : Act} {w : World} {Q : Exit → Act → World → Prop} {s : List Nat} (hgd : o.guard = none) (x : Operand) (ho : o.op = .buildSlice 27 1 #[(0, x)]) (hx : a.eval x = .agg (u8s s).toArray) (hl : s.length = 32)
    (h : wpList Try.prog ops Q rest (a.put o.dst (.slice (some ⟨w.heap.size, 0, none⟩) 1 1)) (w.alloc (row8 23 s))) : wpList Try.prog ops Q (o :: rest) a w :=
  wpList_plain hgd fun K hK => by
    unfold Oper.wp
    rw [exec_build_seed x ho hx hl]
    exact hK _ _ h

set_option maxHeartbeats 8000000 in
theorem rdirection_any (kl : List Nat) (w : World) (hk : kl.length = 32) (bk : Lt 256 kl) :
    Calls Try.prog 22 #[arr8 kl] w fun e w' => ∃ vz vo vk, e = .returned (.agg #[.int .u64 (wd kl 9 0 : Nat), .int .u64 (wd kl 9 1 : Nat), vz, vo, vk]) ∧ Sds w' vz (dz kl) 128 ∧ Sds w' vo (dn kl) 128 ∧ Sds w' vk (dk kl) 128 ∧ Below w.heap.size w w' := by
  obtain ⟨i0, hii, hz0, hz1, hz2⟩ := info_of infoS
  have kw := fun w => hide1 (wd_words2 kl w hk bk)
  have kcc : Hid (∀ (y : Nat) (w : World), y < 18446744073709551616 → Calls Try.prog 21 #[.agg (u8s kl).toArray, .int .u64 (y : Int)] w fun e w' => e = .returned (.agg (u8s (childP kl y)).toArray) ∧ Below w.heap.size w w') := fun y w hy => rchild_any kl y w hk bk hy
  have kbb : Hid (∀ (i : Int) (w : World), Calls Try.prog 17 #[.agg #[.int .u64 (wd kl 9 0 : Nat), .int .u64 (wd kl 9 1 : Nat)], .int .i64 i] w fun e w' => e = .returned (.bool (bt (wd kl 9 0) (wd kl 9 1) i)) ∧ Below w.heap.size w w') := fun i w => rbit_any _ _ i w
  have HDK : Shy (∀ i : Nat, (if bt (wd kl 9 0) (wd kl 9 1) (i : Int) then dn kl i else dz kl i) = dk kl i) := ⟨fun i => rfl⟩
  have HC0 : Shy (∀ i, childP kl (2 * i) = dz kl i) := ⟨fun i => rfl⟩
  have HC1 : Shy (∀ i, childP kl (2 * i + 1) = dn kl i) := ⟨fun i => rfl⟩
  have HLs : Shy ((∀ i, (dz kl i).length = 32) ∧ (∀ i, (dn kl i).length = 32) ∧ ∀ i, (dk kl i).length = 32) := ⟨⟨dz_len kl, dn_len kl, dk_len kl⟩⟩
  generalize wd kl 9 0 = d0 at *
  generalize wd kl 9 1 = d1 at *
  generalize dz kl = fz at *
  generalize dn kl = fo at *
  generalize dk kl = fk at *
  have hi := hi23 hk
  clear hk bk
  unfold arr8
  go_enter Try.func22, Try.ntmps22
  go_upto_region 1 with (fail)
  generalize hX : World.alloc (World.alloc w _) _ = X
  have x0 : X.heap[w.heap.size]? = some (row8 23 kl) := by rw [← hX]; exact heap_alloc2_old _ _ _
  have x1 : X.heap[w.heap.size + 1]? = some (.cells #[.int .u64 0, .int .u64 0, .slice none 0 0, .slice none 0 0, .slice none 0 0] 37 (0, 0)) := by rw [← hX]; exact heap_alloc2_new _ _ _
  have xb : Below w.heap.size w X := by rw [← hX]; exact ((Below.refl _ _).alloc (Nat.le_refl _) _).alloc (by simp) _
  have X0 := hide1 x0
  have X1 := hide1 x1
  have XB := hide1 xb
  clear hX x0 x1 xb
  go_wp2_with (first | (refine wpList_load_row rfl 23 (.tmp 1) rfl w.heap.size rfl 23 (u8s kl).toArray (0, 0) _ X0.out Try.underlying23 rfl hi ?_) | fail)
  go_at_call 31
  refine (kw _).out.mono ?_
  rintro e w1 ⟨a, m, c, rfl, hnl, hlow, hb1⟩
  obtain rfl : 2 = m := hnl.len
  obtain ⟨g, o, rfl, c0⟩ := hnl.at' 0 d0 rfl
  obtain ⟨g', o', e', c1⟩ := hnl.at' 1 d1 rfl
  cases e'
  rw [Nat.add_zero] at c0
  have R0 : Hid (w1.heap[w.heap.size]? = some (row8 23 kl)) := (hb1.block _ (lt_heap X0.out)).trans X0.out
  have R1 := hide1 ((hb1.block _ (lt_heap X1.out)).trans X1.out)
  have RB := hide1 (XB.out.trans (hb1.mono XB.out.size))
  clear hnl hlow hb1 X0 X1 XB kw X
  go_upto_region 2 with (fail)
  refine region_f (F := []) (S := fun w' => Below w1.heap.size w1 w') (by kernel_rfl) ((Below.refl _ _).drew) (fun hS => ?_)
  refine take_p 0 13 (.slice (some ⟨g, o, none⟩) 2 c) rfl rfl (by kernel_rfl) (by kernel_rfl) (by kernel_rfl) (fun _ _ _ h => h) rfl (fun w => by go_simp) ?_
  try simp only [List.setIfInBounds_toArray, List.set_cons_zero, List.set_cons_succ]
  refine take_p 1 14 (.pointer (some ⟨g, o, none⟩)) rfl rfl (by kernel_rfl) (by kernel_rfl) (by kernel_rfl) (fun _ _ _ h => h) rfl (fun w => by go_simp) ?_
  try simp only [List.setIfInBounds_toArray, List.set_cons_zero, List.set_cons_succ]
  refine take_f 2 15 (.int .u64 (d0 : Int)) [6, 7, 9] rfl rfl (by kernel_rfl) (by kernel_rfl) (by kernel_rfl) (by kernel_rfl) (by kernel_rfl) (by kernel_rfl) (fun _ _ _ h => h) rfl (fun w hSw => by have cc := hSw.cell (p := ⟨g, o, none⟩) (lt_cell c0); rw [c0] at cc; go_simp) hS ?_
  try simp only [List.setIfInBounds_toArray, List.set_cons_zero, List.set_cons_succ]
  refine take_p 3 16 (.slice (some ⟨g, o, none⟩) 2 c) rfl rfl (by kernel_rfl) (by kernel_rfl) (by kernel_rfl) (fun _ _ _ h => h) rfl (fun w => by go_simp) ?_
  try simp only [List.setIfInBounds_toArray, List.set_cons_zero, List.set_cons_succ]
  refine take_p 4 17 (.pointer (some ⟨g, o + 1, none⟩)) rfl rfl (by kernel_rfl) (by kernel_rfl) (by kernel_rfl) (fun _ _ _ h => h) rfl (fun w => by go_simp) ?_
  try simp only [List.setIfInBounds_toArray, List.set_cons_zero, List.set_cons_succ]
  refine take_f 5 18 (.int .u64 (d1 : Int)) [6, 7, 9] rfl rfl (by kernel_rfl) (by kernel_rfl) (by kernel_rfl) (by kernel_rfl) (by kernel_rfl) (by kernel_rfl) (fun _ _ _ h => h) rfl (fun w hSw => by have cc := hSw.cell (p := ⟨g, o + 1, none⟩) (lt_cell c1); rw [c1] at cc; go_simp) hS ?_
  try simp only [List.setIfInBounds_toArray, List.set_cons_zero, List.set_cons_succ]
  refine take_p 6 19 (.agg #[.int .u64 (d0 : Int), .int .u64 (d1 : Int)]) rfl rfl (by kernel_rfl) (by kernel_rfl) (by kernel_rfl) (fun _ _ _ h => h) rfl (fun w => by go_simp) ?_
  try simp only [List.setIfInBounds_toArray, List.set_cons_zero, List.set_cons_succ]
  refine take_p 7 20 (.agg #[.int .u64 (d0 : Int), .int .u64 (d1 : Int), .slice none 0 0, .slice none 0 0, .slice none 0 0]) rfl rfl (by kernel_rfl) (by kernel_rfl) (by kernel_rfl) (fun _ _ _ h => h) rfl (fun w => by go_simp) ?_
  try simp only [List.setIfInBounds_toArray, List.set_cons_zero, List.set_cons_succ]
  refine ready_f 8 (o := { dst := some 5, op := Op.alloc 37, type := 0, pos := "ref.go:34", after := #[], guard := none }) (by kernel_rfl) rfl (fun K hK => ?_)
  go_simp
  refine hK.out _ _ (fun _ h => h.alloc h.size _) ?_
  clear hK K
  try simp only [Act.put, List.setIfInBounds_toArray, List.set_cons_zero, List.set_cons_succ]
  refine ready_f 9 (o := { dst := none, op := Op.store 37 (Operand.tmp 5) (Operand.tmp 20), type := 0, pos := "ref.go:34", after := #[{ on := 8, ground := Ground.data }, { on := 7, ground := Ground.data }, { on := 0, ground := Ground.phase }, { on := 1, ground := Ground.phase }, { on := 2, ground := Ground.phase }, { on := 3, ground := Ground.phase }, { on := 4, ground := Ground.phase }, { on := 5, ground := Ground.phase }, { on := 6, ground := Ground.phase }, { on := 7, ground := Ground.phase }, { on := 8, ground := Ground.phase }], guard := none }) (by kernel_rfl) rfl (fun K hK => ?_)
  rw [if_pos (by rfl)]
  refine wp_store_row 37 _ _ rfl w1.heap.size _ rfl rfl 37 _ (heap_alloc_new w1 _) (by kernel_rfl) (by simp) (by simp [Value.oneCell']) ?_
  refine hK.out _ _ (fun _ h => Below.setRow' h (Nat.le_refl _) _) ?_
  clear hK K
  refine done_f (by kernel_rfl) ?_ _
  generalize hY : World.setRow _ w1.heap.size _ = Y
  obtain ⟨gd, hgd⟩ : ∃ gd, gd = w1.heap.size := ⟨_, rfl⟩
  have hbox : Y.heap[gd]? = some (.cells #[.int .u64 (d0 : Int), .int .u64 (d1 : Int), .slice none 0 0, .slice none 0 0, .slice none 0 0] 37 (0, 0)) := by rw [← hY, hgd]; exact setRow_heap _ _ _ _ _ _ (heap_alloc_new w1 _)
  have hYb : Below w1.heap.size w1 Y := by rw [← hY]; exact Below.setRow' (((Below.refl _ _).drew).alloc (Nat.le_refl _) _) (Nat.le_refl _) _
  have hD0 : Rd kl d0 d1 w.heap.size gd 0 0 0 (.slice none 0 0) (.slice none 0 0) (.slice none 0 0) fz fo fk w Y :=
    ⟨(hYb.block _ (lt_heap R0.out)).trans R0.out, (hYb.block _ (lt_heap R1.out)).trans R1.out, hbox, World.ownsRow_nil _ _ _ _, World.ownsRow_nil _ _ _ _, World.ownsRow_nil _ _ _ _, fun _ h => (by cases h), fun _ h => (by cases h), fun _ h => (by cases h), (by rw [hgd]; exact lt_heap R1.out), RB.out.trans (hYb.mono (Nat.le_of_lt (lt_heap R0.out)))⟩
  rw [← hgd]
  have HD0 := hide1 hD0
  clear hbox hYb hD0 hY hgd c0 c1 R0 R1 RB hS w1
  go_wp2
  go_loopw [6] (fun v wr => ∃ (k : Nat) (az ao ak : Option Addr) (cz co ck : Nat), k ≤ 128 ∧ v = .int .i64 k ∧ Rd kl d0 d1 w.heap.size gd k k k (.slice az k cz) (.slice ao k co) (.slice ak k ck) fz fo fk w wr) (fun v _ => 128 - (intOf v).toNat)
  case atStart => exact ⟨0, none, none, none, 0, 0, 0, Nat.zero_le _, rfl, HD0.out⟩
  case round =>
    obtain ⟨k, az, ao, ak, cz, co, ck, hk, rfl, hdm⟩ := hrel
    by_cases hlt : k < 128
    · have bk : (k : Int) < 128 := by omega
      have HK : Shy (k < 128) := ⟨hlt⟩
      obtain ⟨y0, hy0⟩ : ∃ y, y = 2 * k := ⟨_, rfl⟩
      obtain ⟨y1, hy1⟩ : ∃ y, y = 2 * k + 1 := ⟨_, rfl⟩
      have e0 : 2 * (k : Int) = (y0 : Int) := by omega
      have e1 : (y0 : Int) + 1 = (y1 : Int) := by omega
      have q0 : IntKind.i64.wrap (y0 : Int) = (y0 : Int) := by rw [IntKind.wrap_i64]; omega
      have q1 : IntKind.i64.wrap (y1 : Int) = (y1 : Int) := by rw [IntKind.wrap_i64]; omega
      have q2 : IntKind.u64.wrap (y0 : Int) = (y0 : Int) := by rw [IntKind.wrap_u64]; omega
      have q3 : IntKind.u64.wrap (y1 : Int) = (y1 : Int) := by rw [IntKind.wrap_u64]; omega
      have hc0 := fun w => kcc.out y0 w (by omega)
      have hc1 := fun w => kcc.out y1 w (by omega)
      rw [hy0, HC0.out, ← hy0] at hc0
      rw [hy1, HC1.out, ← hy1] at hc1
      have KC0 := hide1 hc0
      have KC1 := hide1 hc1
      obtain ⟨Z, hZ⟩ : ∃ Z, Z = wr := ⟨_, rfl⟩
      subst hZ
      have HDM := hide1 hdm
      clear hc0 hc1 hy0 hy1 hdm HD0 Y
      have DB : Hid (∀ w', Below Z.heap.size Z w' → Rd kl d0 d1 w.heap.size gd k k k (.slice az k cz) (.slice ao k co) (.slice ak k ck) fz fo fk w w') := fun w' h => HDM.out.to h
      obtain ⟨s, hs⟩ : ∃ s, s = fz k := ⟨_, rfl⟩
      have hsl : s.length = 32 := by rw [hs]; exact HLs.out.1 k
      have kc := fun w => hide1 (KC0.out w)
      rw [← hs] at kc
      have HSLN : Shy (s.length = 32) := ⟨hsl⟩
      have HSL : Shy ((u8s s).length = 1 * 32) := ⟨by rw [u8s_length, hsl]⟩
      have HS : Shy (s = fz k) := ⟨hs⟩
      clear hs hsl
      go_upto_region 6 with (fail)
      refine region_f (F := [8, 10]) (S := fun w' => Below Z.heap.size Z w') (by kernel_rfl) ((Below.refl _ _).drew) (fun hS => ?_)
      refine take_p 0 25 (.pointer (some ⟨gd, 2, none⟩)) rfl rfl (by kernel_rfl) (by kernel_rfl) (by kernel_rfl) (fun _ _ _ h => h) rfl (fun w => by go_simp) ?_
      try simp only [List.setIfInBounds_toArray, List.set_cons_zero, List.set_cons_succ]
      refine take_f 1 26 (.slice az k cz) [8, 9, 10] rfl rfl (by kernel_rfl) (by kernel_rfl) (by kernel_rfl) (by kernel_rfl) (by kernel_rfl) (by kernel_rfl) (fun _ _ _ h => h) rfl (fun w hSw => by have c0 := (DB.out _ hSw).c2; go_simp) hS ?_
      try simp only [List.setIfInBounds_toArray, List.set_cons_zero, List.set_cons_succ]
      refine take_f 2 27 (.agg (u8s kl).toArray) [6, 7, 8, 9, 10] rfl rfl (by kernel_rfl) (by kernel_rfl) (by kernel_rfl) (by kernel_rfl) (by kernel_rfl) (by kernel_rfl) (fun _ _ _ h => h) rfl (fun w hSw => by exact exec_load_row 23 (.tmp 1) rfl _ rfl 23 _ _ _ (DB.out _ hSw).seed Try.underlying23 hi) hS ?_
      try simp only [List.setIfInBounds_toArray, List.set_cons_zero, List.set_cons_succ]
      refine take_p 3 28 (.int .i64 (k : Int)) rfl rfl (by kernel_rfl) (by kernel_rfl) (by kernel_rfl) (fun _ _ _ h => h) rfl (fun w => by go_simp) ?_
      try simp only [List.setIfInBounds_toArray, List.set_cons_zero, List.set_cons_succ]
      refine take_p 4 29 (.int .i64 (y0 : Int)) rfl rfl (by kernel_rfl) (by kernel_rfl) (by kernel_rfl) (fun _ _ _ h => h) rfl (fun w => by go_simp) ?_
      try simp only [List.setIfInBounds_toArray, List.set_cons_zero, List.set_cons_succ]
      refine take_p 5 30 (.int .u64 (y0 : Int)) rfl rfl (by kernel_rfl) (by kernel_rfl) (by kernel_rfl) (fun _ _ _ h => h) rfl (fun w => by go_simp) ?_
      try simp only [List.setIfInBounds_toArray, List.set_cons_zero, List.set_cons_succ]
      refine ready_f 6 (o := { dst := some 31, op := Op.call { callee := Callee.value (Operand.func 21), args := #[Operand.tmp 27, Operand.tmp 30], argTypes := #[23, 24] }, type := 23, pos := "ref.go:36", after := #[{ on := 2, ground := Ground.data }, { on := 5, ground := Ground.data }], guard := none }) (by kernel_rfl) rfl (fun K hK => ?_)
      go_simp
      refine (kc _).out.mono ?_
      rintro e w1 ⟨rfl, hb1⟩
      have hS1 := hS.trans (hb1.mono hS.size)
      refine hK.out _ _ (fun _ _ => hS1) ?_
      clear hK K
      try simp only [Act.put, List.setIfInBounds_toArray, List.set_cons_zero, List.set_cons_succ]
      clear hb1 hS
      refine ready_f 7 (o := { dst := some 32, op := Op.buildSlice 27 1 #[(0, Operand.tmp 31)], type := 27, pos := "ref.go:36", after := #[{ on := 6, ground := Ground.data }], guard := none }) (by kernel_rfl) rfl (fun K hK => ?_)
      rw [if_pos (by rfl)]
      unfold Oper.wp
      rw [show (execOp _ _).run Try.prog w1 = _ from exec_build_seed _ rfl rfl HSLN.out]
      refine hK.out _ _ (fun _ _ => hS1.alloc hS1.size _) ?_
      clear hK K
      try simp only [Act.put, List.setIfInBounds_toArray, List.set_cons_zero, List.set_cons_succ]
      have hSA := hS1.alloc hS1.size (row8 23 s)
      have HNW : Hid (∀ j u, (u8s s)[j]? = some u → (w1.alloc (row8 23 s)).cell? ((⟨w1.heap.size, 0, none⟩ : Addr).add j) = some u) := World.news_of_block (heap_alloc_new w1 (row8 23 s))
      generalize hWA : World.alloc w1 _ = WA at *
      have HOW := hide1 (DB.out _ hSA).oz
      have HBS : Hid (gd + 1 ≤ WA.heap.size) := lt_heap (DB.out _ hSA).box
      refine ready_f 8 (o := { dst := some 33, op := Op.call { callee := Callee.builtin Builtin.append, args := #[Operand.tmp 26, Operand.tmp 32], argTypes := #[27, 27] }, type := 27, pos := "ref.go:36", after := #[{ on := 1, ground := Ground.data }, { on := 7, ground := Ground.data }, { on := 6, ground := Ground.chain }], guard := none }) (by kernel_rfl) rfl (fun K hK => ?_)
      refine step_append_lies _ rfl (.tmp 26) (.tmp 32) 27 rfl (gd + 1) 23 i0 (arr8 (zeros 32)) 32 32 Try.underlying27 hii hz0 hz1 hz2 (by kernel_rfl) (by decide) (.slice az k cz) k (u8s (flt fz k)) rfl HOW.out ⟨w1.heap.size, 0, none⟩ 1 1 (u8s s) rfl HSL.out HNW.out (u8s_one _) (by omega) (by unfold maxLen; have := HK.out; omega) (by have := HK.out; omega) HBS.out _ rfl ?_
      intro g6 c6 w8 ro8 gr8 wh8 lt8
      refine hK.out _ _ (fun h => absurd (by decide) h) ?_
      clear hK K
      try simp only [Act.put, List.setIfInBounds_toArray, List.set_cons_zero, List.set_cons_succ]
      refine take_p 9 34 (.pointer (some ⟨gd, 2, none⟩)) rfl rfl (by kernel_rfl) (by kernel_rfl) (by kernel_rfl) (fun _ _ _ h => h) rfl (fun w => by go_simp) ?_
      try simp only [List.setIfInBounds_toArray, List.set_cons_zero, List.set_cons_succ]
      have hdm := (DB.out _ hSA).addZ ro8 gr8 wh8 HS.out
      have hcw : w8.cell? ⟨gd, 2, none⟩ = some (.slice az k cz) := ((DB.out _ hSA).kept (DB.out _ hSA).oz gr8 2).1.trans (DB.out _ hSA).c2
      have hfz := ((DB.out _ hSA).kept (DB.out _ hSA).oz gr8 2).2
      refine ready_f 10 (o := { dst := none, op := Op.store 27 (Operand.tmp 34) (Operand.tmp 33), type := 0, pos := "ref.go:36", after := #[{ on := 9, ground := Ground.data }, { on := 8, ground := Ground.data }, { on := 8, ground := Ground.chain }, { on := 0, ground := Ground.phase }, { on := 1, ground := Ground.phase }, { on := 2, ground := Ground.phase }, { on := 3, ground := Ground.phase }, { on := 4, ground := Ground.phase }, { on := 5, ground := Ground.phase }, { on := 6, ground := Ground.phase }, { on := 7, ground := Ground.phase }, { on := 8, ground := Ground.phase }], guard := none }) (by kernel_rfl) rfl (fun K hK => ?_)
      go_simp
      refine hK.out _ _ (fun h => absurd (by decide) h) ?_
      clear hK K
      refine done_f (by kernel_rfl) ?_ _
      obtain ⟨n1, hn1⟩ : ∃ n1, n1 = k + 1 := ⟨_, rfl⟩
      rw [← hn1] at hdm ⊢
      generalize World.setCell w8 _ _ = Z2 at *
      have HDM2 := hide1 hdm
      have HN1 : Shy (n1 = k + 1) := ⟨hn1⟩
      clear hdm hcw hfz ro8 gr8 wh8 lt8 HOW HBS HNW hSA hWA hS1 DB HDM HSL HSLN HS kc hn1
      obtain ⟨Z, hZ⟩ : ∃ Z, Z = Z2 := ⟨_, rfl⟩
      subst hZ
      have DB : Hid (∀ w', Below Z.heap.size Z w' → Rd kl d0 d1 w.heap.size gd n1 k k (.slice (some ⟨g6, 0, none⟩) n1 c6) (.slice ao k co) (.slice ak k ck) fz fo fk w w') := fun w' h => HDM2.out.to h
      obtain ⟨s2, hs⟩ : ∃ s, s = fo k := ⟨_, rfl⟩
      have hsl : s2.length = 32 := by rw [hs]; exact HLs.out.2.1 k
      have kc := fun w => hide1 (KC1.out w)
      rw [← hs] at kc
      have HSLN : Shy (s2.length = 32) := ⟨hsl⟩
      have HSL : Shy ((u8s s2).length = 1 * 32) := ⟨by rw [u8s_length, hsl]⟩
      have HS : Shy (s2 = fo k) := ⟨hs⟩
      clear hs hsl
      go_upto_region 7 with (fail)
      refine region_f (F := [9, 11]) (S := fun w' => Below Z.heap.size Z w') (by kernel_rfl) ((Below.refl _ _).drew) (fun hS => ?_)
      refine take_p 0 35 (.pointer (some ⟨gd, 3, none⟩)) rfl rfl (by kernel_rfl) (by kernel_rfl) (by kernel_rfl) (fun _ _ _ h => h) rfl (fun w => by go_simp) ?_
      try simp only [List.setIfInBounds_toArray, List.set_cons_zero, List.set_cons_succ]
      refine take_f 1 36 (.slice ao k co) [9, 10, 11] rfl rfl (by kernel_rfl) (by kernel_rfl) (by kernel_rfl) (by kernel_rfl) (by kernel_rfl) (by kernel_rfl) (fun _ _ _ h => h) rfl (fun w hSw => by have c0 := (DB.out _ hSw).c3; go_simp) hS ?_
      try simp only [List.setIfInBounds_toArray, List.set_cons_zero, List.set_cons_succ]
      refine take_f 2 37 (.agg (u8s kl).toArray) [7, 8, 9, 10, 11] rfl rfl (by kernel_rfl) (by kernel_rfl) (by kernel_rfl) (by kernel_rfl) (by kernel_rfl) (by kernel_rfl) (fun _ _ _ h => h) rfl (fun w hSw => by exact exec_load_row 23 (.tmp 1) rfl _ rfl 23 _ _ _ (DB.out _ hSw).seed Try.underlying23 hi) hS ?_
      try simp only [List.setIfInBounds_toArray, List.set_cons_zero, List.set_cons_succ]
      refine take_p 3 38 (.int .i64 (k : Int)) rfl rfl (by kernel_rfl) (by kernel_rfl) (by kernel_rfl) (fun _ _ _ h => h) rfl (fun w => by go_simp) ?_
      try simp only [List.setIfInBounds_toArray, List.set_cons_zero, List.set_cons_succ]
      refine take_p 4 39 (.int .i64 (y0 : Int)) rfl rfl (by kernel_rfl) (by kernel_rfl) (by kernel_rfl) (fun _ _ _ h => h) rfl (fun w => by go_simp) ?_
      try simp only [List.setIfInBounds_toArray, List.set_cons_zero, List.set_cons_succ]
      refine take_p 5 40 (.int .i64 (y1 : Int)) rfl rfl (by kernel_rfl) (by kernel_rfl) (by kernel_rfl) (fun _ _ _ h => h) rfl (fun w => by go_simp) ?_
      try simp only [List.setIfInBounds_toArray, List.set_cons_zero, List.set_cons_succ]
      refine take_p 6 41 (.int .u64 (y1 : Int)) rfl rfl (by kernel_rfl) (by kernel_rfl) (by kernel_rfl) (fun _ _ _ h => h) rfl (fun w => by go_simp) ?_
      try simp only [List.setIfInBounds_toArray, List.set_cons_zero, List.set_cons_succ]
      refine ready_f 7 (o := { dst := some 42, op := Op.call { callee := Callee.value (Operand.func 21), args := #[Operand.tmp 37, Operand.tmp 41], argTypes := #[23, 24] }, type := 23, pos := "ref.go:37", after := #[{ on := 2, ground := Ground.data }, { on := 6, ground := Ground.data }], guard := none }) (by kernel_rfl) rfl (fun K hK => ?_)
      go_simp
      refine (kc _).out.mono ?_
      rintro e w1 ⟨rfl, hb1⟩
      have hS1 := hS.trans (hb1.mono hS.size)
      refine hK.out _ _ (fun _ _ => hS1) ?_
      clear hK K
      try simp only [Act.put, List.setIfInBounds_toArray, List.set_cons_zero, List.set_cons_succ]
      clear hb1 hS
      refine ready_f 8 (o := { dst := some 43, op := Op.buildSlice 27 1 #[(0, Operand.tmp 42)], type := 27, pos := "ref.go:37", after := #[{ on := 7, ground := Ground.data }], guard := none }) (by kernel_rfl) rfl (fun K hK => ?_)
      rw [if_pos (by rfl)]
      unfold Oper.wp
      rw [show (execOp _ _).run Try.prog w1 = _ from exec_build_seed _ rfl rfl HSLN.out]
      refine hK.out _ _ (fun _ _ => hS1.alloc hS1.size _) ?_
      clear hK K
      try simp only [Act.put, List.setIfInBounds_toArray, List.set_cons_zero, List.set_cons_succ]
      have hSA := hS1.alloc hS1.size (row8 23 s2)
      have HNW : Hid (∀ j u, (u8s s2)[j]? = some u → (w1.alloc (row8 23 s2)).cell? ((⟨w1.heap.size, 0, none⟩ : Addr).add j) = some u) := World.news_of_block (heap_alloc_new w1 (row8 23 s2))
      generalize hWA : World.alloc w1 _ = WA at *
      have HOW := hide1 (DB.out _ hSA).oo
      have HBS : Hid (gd + 1 ≤ WA.heap.size) := lt_heap (DB.out _ hSA).box
      refine ready_f 9 (o := { dst := some 44, op := Op.call { callee := Callee.builtin Builtin.append, args := #[Operand.tmp 36, Operand.tmp 43], argTypes := #[27, 27] }, type := 27, pos := "ref.go:37", after := #[{ on := 1, ground := Ground.data }, { on := 8, ground := Ground.data }, { on := 7, ground := Ground.chain }], guard := none }) (by kernel_rfl) rfl (fun K hK => ?_)
      refine step_append_lies _ rfl (.tmp 36) (.tmp 43) 27 rfl (gd + 1) 23 i0 (arr8 (zeros 32)) 32 32 Try.underlying27 hii hz0 hz1 hz2 (by kernel_rfl) (by decide) (.slice ao k co) k (u8s (flt fo k)) rfl HOW.out ⟨w1.heap.size, 0, none⟩ 1 1 (u8s s2) rfl HSL.out HNW.out (u8s_one _) (by omega) (by unfold maxLen; have := HK.out; omega) (by have := HK.out; omega) HBS.out _ rfl ?_
      intro g7 c7 w8 ro8 gr8 wh8 lt8
      refine hK.out _ _ (fun h => absurd (by decide) h) ?_
      clear hK K
      try simp only [Act.put, List.setIfInBounds_toArray, List.set_cons_zero, List.set_cons_succ]
      refine take_p 10 45 (.pointer (some ⟨gd, 3, none⟩)) rfl rfl (by kernel_rfl) (by kernel_rfl) (by kernel_rfl) (fun _ _ _ h => h) rfl (fun w => by go_simp) ?_
      try simp only [List.setIfInBounds_toArray, List.set_cons_zero, List.set_cons_succ]
      have hdm := (DB.out _ hSA).addO ro8 gr8 wh8 HS.out
      have hcw : w8.cell? ⟨gd, 3, none⟩ = some (.slice ao k co) := ((DB.out _ hSA).kept (DB.out _ hSA).oo gr8 3).1.trans (DB.out _ hSA).c3
      have hfz := ((DB.out _ hSA).kept (DB.out _ hSA).oo gr8 3).2
      refine ready_f 11 (o := { dst := none, op := Op.store 27 (Operand.tmp 45) (Operand.tmp 44), type := 0, pos := "ref.go:37", after := #[{ on := 10, ground := Ground.data }, { on := 9, ground := Ground.data }, { on := 9, ground := Ground.chain }, { on := 0, ground := Ground.phase }, { on := 1, ground := Ground.phase }, { on := 2, ground := Ground.phase }, { on := 3, ground := Ground.phase }, { on := 4, ground := Ground.phase }, { on := 5, ground := Ground.phase }, { on := 6, ground := Ground.phase }, { on := 7, ground := Ground.phase }, { on := 8, ground := Ground.phase }, { on := 9, ground := Ground.phase }], guard := none }) (by kernel_rfl) rfl (fun K hK => ?_)
      go_simp
      refine hK.out _ _ (fun h => absurd (by decide) h) ?_
      clear hK K
      refine done_f (by kernel_rfl) ?_ _
      rw [← HN1.out] at hdm ⊢
      generalize World.setCell w8 _ _ = Z2 at *
      have HDM3 := hide1 hdm
      clear hdm hcw hfz ro8 gr8 wh8 lt8 HOW HBS HNW hSA hWA hS1 DB HDM2 HSL HSLN HS kc
      obtain ⟨Z, hZ⟩ : ∃ Z, Z = Z2 := ⟨_, rfl⟩
      subst hZ
      have RZ : Hid (∀ w', Below Z.heap.size Z w' → w'.rangeAt g6 (k * 32) (u8s (fz k))) := fun w' h => by
        have hq := own_sds HLs.out.1 (show 0 < n1 by have := HN1.out; omega) (HDM3.out.to h).oz
        obtain ⟨g', c', e', _, hr⟩ := hq.at'
        cases e'
        exact hr k (by have := HN1.out; omega)
      have RO : Hid (∀ w', Below Z.heap.size Z w' → w'.rangeAt g7 (k * 32) (u8s (fo k))) := fun w' h => by
        have hq := own_sds HLs.out.2.1 (show 0 < n1 by have := HN1.out; omega) (HDM3.out.to h).oo
        obtain ⟨g', c', e', _, hr⟩ := hq.at'
        cases e'
        exact hr k (by have := HN1.out; omega)
      have hdk := HDK.out k
      have hlz := HLs.out.1 k
      have hlo := HLs.out.2.1 k
      generalize fz k = sz at *
      generalize fo k = so at *
      have kb := fun w => hide1 (kbb.out (k : Int) w)
      generalize bt d0 d1 (k : Int) = bb at *
      have HDk : Shy ((if bb then so else sz) = fk k) := ⟨hdk⟩
      have hiz := hi23 hlz
      have hio := hi23 hlo
      have hiz' := hi23' hlz
      have hio' := hi23' hlo
      have HZs : Shy ((u8s (zeros 32)).toArray.size = (u8s sz).toArray.size) := ⟨by simp [u8s, zeros, hlz]⟩
      have HOs : Shy ((u8s sz).toArray.size = (u8s so).toArray.size) := ⟨by simp [u8s, hlo, hlz]⟩
      have hk1 : (k : Int) < (n1 : Int) := by have := HN1.out; omega
      have cz2 := HDM3.out.c2
      have HLL : Shy (sz.length = 32 ∧ so.length = 32) := ⟨⟨hlz, hlo⟩⟩
      have ra := hide1 (RZ.out Z (Below.refl _ _))
      obtain ⟨b7, hb7⟩ : ∃ b, b = Z.heap.size := ⟨_, rfl⟩
      clear hdk hlz hlo
      go_upto_region 9 with (first | (refine wpList_load_mid rfl 23 (.tmp 49) rfl g6 (k * 32) rfl (u8s sz) _ ra.out Try.underlying23 rfl hiz' ?_) | (refine wpList_store_own rfl 23 (.tmp 7) (.tmp 50) rfl Z.heap.size rfl (u8s sz).toArray rfl 23 _ (heap_alloc_new Z (row8 23 (zeros 32))) hiz HZs.out (all_one (u8s_one _)) ?_) | fail)
      generalize hW4 : World.setRow _ Z.heap.size _ = W4
      have hr7 : W4.heap[b7]? = some (row8 23 sz) := by rw [← hW4, hb7]; exact setRow_heap _ _ _ _ _ _ (heap_alloc_new Z _)
      have hB4 : Below Z.heap.size Z W4 := by rw [← hW4]; exact Below.setRow' ((Below.refl _ _).alloc (Nat.le_refl _) _) (Nat.le_refl _) _
      have HB7 : Shy (Z.heap.size ≤ b7) := ⟨by omega⟩
      rw [← hb7]
      have rr := hide1 (HDM3.out.to hB4).c0
      have RB4 := hide1 hB4
      have RR7 := hide1 hr7
      clear hW4 hr7 hB4 cz2 ra hb7 HZs
      go_wp2_with (first | (refine wpList_load_mid rfl 26 (.tmp 51) rfl gd 0 rfl [.int .u64 (d0 : Int), .int .u64 (d1 : Int)] _ rr.out Try.underlying26 rfl (by kernel_rfl) ?_) | fail)
      go_at_call 17
      refine (kb _).out.mono ?_
      rintro e W5 ⟨rfl, hb5⟩
      have RB5 := hide1 (RB4.out.trans (hb5.mono RB4.out.size))
      have RR5 := hide1 ((hb5.block _ (lt_heap RR7.out)).trans RR7.out)
      clear hb5 rr RB4 RR7
      cases bb with
      | false =>
        have HF : Shy (sz = fk k) := ⟨HDk.out⟩
        go_upto_region 11 with (fail)
        have c4 := (HDM3.out.to RB5.out).c4
        have hSA := (RB5.out).trans ((Below.refl W5.heap.size W5).alloc (Nat.le_refl _) (row8 23 sz) |>.mono (RB5.out).size)
        have HSLN : Shy (sz.length = 32) := ⟨HLL.out.1⟩
        have HSL : Shy ((u8s sz).length = 1 * 32) := ⟨by rw [u8s_length, HSLN.out]⟩
        have HNW : Hid (∀ j u, (u8s sz)[j]? = some u → (W5.alloc (row8 23 sz)).cell? ((⟨W5.heap.size, 0, none⟩ : Addr).add j) = some u) := World.news_of_block (heap_alloc_new W5 (row8 23 sz))
        have HOW := hide1 (HDM3.out.to hSA).ok
        have HBS : Hid (gd + 1 ≤ (W5.alloc (row8 23 sz)).heap.size) := lt_heap (HDM3.out.to hSA).box
        have HSA := hide1 hSA
        clear hSA
        go_wp2_with (first
          | (refine wpList_load_row rfl 23 (.tmp 7) rfl b7 rfl 23 (u8s sz).toArray (0, 0) _ RR5.out Try.underlying23 rfl hiz ?_)
          | (refine wpList_build_seed rfl (.tmp 62) rfl rfl HSLN.out ?_)
          | (at_builtin; go_must (refine wpList_append_lies _ rfl (.tmp 61) (.tmp 63) 27 rfl (gd + 1) 23 i0 (arr8 (zeros 32)) 32 32 Try.underlying27 hii hz0 hz1 hz2 (by kernel_rfl) (by decide) (.slice ak k ck) k (u8s (flt fk k)) rfl HOW.out ⟨W5.heap.size, 0, none⟩ 1 1 (u8s sz) rfl HSL.out HNW.out (u8s_one _) (by omega) (by unfold maxLen; have := HK.out; omega) (by have := HK.out; omega) HBS.out _ rfl ?_; intro g11 c11 w8 ro8 gr8 wh8 lt8; have hcw : w8.cell? ⟨gd, 4, none⟩ = some (.slice ak k ck) := ((HDM3.out.to HSA.out).kept (HDM3.out.to HSA.out).ok gr8 4).1.trans (HDM3.out.to HSA.out).c4; have hfz := ((HDM3.out.to HSA.out).kept (HDM3.out.to HSA.out).ok gr8 4).2; have hdm := hide1 ((HDM3.out.to HSA.out).addK ro8 gr8 wh8 HF.out); clear ro8 gr8 wh8 lt8 HOW HBS HNW HSA c4))
          | fail)
        go_roundw
        case rel =>
          have h1 := hdm.out
          have e1 := HN1.out
          have hk2 := HK.out
          clear hdm
          subst e1
          exact ⟨k + 1, _, _, _, _, _, _, by omega, by go_num, h1⟩
        case measure => have := HK.out; simp [intOf]; omega
      | true =>
        have HF : Shy (so = fk k) := ⟨HDk.out⟩
        have co3 := (HDM3.out.to RB5.out).c3
        have rb := hide1 (RO.out W5 RB5.out)
        go_upto_region 11 with (first | (refine wpList_load_mid rfl 23 (.tmp 58) rfl g7 (k * 32) rfl (u8s so) _ rb.out Try.underlying23 rfl hio' ?_) | (refine wpList_store_own rfl 23 (.tmp 7) (.tmp 59) rfl b7 rfl (u8s so).toArray rfl 23 _ RR5.out hio HOs.out (all_one (u8s_one _)) ?_) | fail)
        have RB6 := hide1 (Below.setRow' RB5.out HB7.out (u8s so).toArray)
        have RR6 := hide1 (setRow_heap W5 b7 _ (u8s so).toArray _ _ RR5.out)
        generalize World.setRow W5 _ _ = W6 at *
        clear co3 rb RB5 RR5
        have c4 := (HDM3.out.to RB6.out).c4
        have hSA := (RB6.out).trans ((Below.refl W6.heap.size W6).alloc (Nat.le_refl _) (row8 23 so) |>.mono (RB6.out).size)
        have HSLN : Shy (so.length = 32) := ⟨HLL.out.2⟩
        have HSL : Shy ((u8s so).length = 1 * 32) := ⟨by rw [u8s_length, HSLN.out]⟩
        have HNW : Hid (∀ j u, (u8s so)[j]? = some u → (W6.alloc (row8 23 so)).cell? ((⟨W6.heap.size, 0, none⟩ : Addr).add j) = some u) := World.news_of_block (heap_alloc_new W6 (row8 23 so))
        have HOW := hide1 (HDM3.out.to hSA).ok
        have HBS : Hid (gd + 1 ≤ (W6.alloc (row8 23 so)).heap.size) := lt_heap (HDM3.out.to hSA).box
        have HSA := hide1 hSA
        clear hSA
        go_wp2_with (first
          | (refine wpList_load_row rfl 23 (.tmp 7) rfl b7 rfl 23 (u8s so).toArray (0, 0) _ RR6.out Try.underlying23 rfl hio ?_)
          | (refine wpList_build_seed rfl (.tmp 62) rfl rfl HSLN.out ?_)
          | (at_builtin; go_must (refine wpList_append_lies _ rfl (.tmp 61) (.tmp 63) 27 rfl (gd + 1) 23 i0 (arr8 (zeros 32)) 32 32 Try.underlying27 hii hz0 hz1 hz2 (by kernel_rfl) (by decide) (.slice ak k ck) k (u8s (flt fk k)) rfl HOW.out ⟨W6.heap.size, 0, none⟩ 1 1 (u8s so) rfl HSL.out HNW.out (u8s_one _) (by omega) (by unfold maxLen; have := HK.out; omega) (by have := HK.out; omega) HBS.out _ rfl ?_; intro g11 c11 w8 ro8 gr8 wh8 lt8; have hcw : w8.cell? ⟨gd, 4, none⟩ = some (.slice ak k ck) := ((HDM3.out.to HSA.out).kept (HDM3.out.to HSA.out).ok gr8 4).1.trans (HDM3.out.to HSA.out).c4; have hfz := ((HDM3.out.to HSA.out).kept (HDM3.out.to HSA.out).ok gr8 4).2; have hdm := hide1 ((HDM3.out.to HSA.out).addK ro8 gr8 wh8 HF.out); clear ro8 gr8 wh8 lt8 HOW HBS HNW HSA c4))
          | fail)
        go_roundw
        case rel =>
          have h1 := hdm.out
          have e1 := HN1.out
          have hk2 := HK.out
          clear hdm
          subst e1
          exact ⟨k + 1, _, _, _, _, _, _, by omega, by go_num, h1⟩
        case measure => have := HK.out; simp [intOf]; omega
    · obtain rfl : k = 128 := by omega
      have DD := hide1 hdm
      clear hdm HD0
      have f2 := setRow_heap wr (w.heap.size + 1) _ #[.int .u64 (d0 : Int), .int .u64 (d1 : Int), .slice az 128 cz, .slice ao 128 co, .slice ak 128 ck] _ _ DD.out.r2
      have hlt' := DD.out.lt
      have hE : ∀ {v : Value} {f : Nat → List Nat}, wr.ownsRow (gd + 1) 23 32 v 128 (u8s (flt f 128)) → (wr.setRow (w.heap.size + 1) #[.int .u64 (d0 : Int), .int .u64 (d1 : Int), .slice az 128 cz, .slice ao 128 co, .slice ak 128 ck]).ownsRow (gd + 1) 23 32 v 128 (u8s (flt f 128)) := fun h => own_keep h (fun g hg => setRow_other _ _ _ _ (by have := (own_lt h hg).1; omega))
      have sz := own_sds HLs.out.1 (by omega) (hE DD.out.oz)
      have so := own_sds HLs.out.2.1 (by omega) (hE DD.out.oo)
      have sk := own_sds HLs.out.2.2 (by omega) (hE DD.out.ok)
      have fb := Below.setRow' DD.out.bel (show w.heap.size ≤ w.heap.size + 1 by omega) #[.int .u64 (d0 : Int), .int .u64 (d1 : Int), .slice az 128 cz, .slice ao 128 co, .slice ak 128 ck]
      have F2 := hide1 f2
      have FF : Hid (Sds _ _ _ _ ∧ Sds _ _ _ _ ∧ Sds _ _ _ _ ∧ Below _ _ _) := ⟨sz, so, sk, fb⟩
      clear hE f2 sz so sk fb hlt' Y
      go_wp2_with (first | (refine wpList_load_row rfl 37 (.tmp 5) rfl gd rfl 37 #[.int .u64 (d0 : Int), .int .u64 (d1 : Int), .slice az 128 cz, .slice ao 128 co, .slice ak 128 ck] (0, 0) _ DD.out.box Try.underlying37 rfl (by kernel_rfl) ?_) | (refine wpList_store_own rfl 37 (.tmp 2) (.tmp 66) rfl (w.heap.size + 1) rfl #[.int .u64 (d0 : Int), .int .u64 (d1 : Int), .slice az 128 cz, .slice ao 128 co, .slice ak 128 ck] rfl 37 _ DD.out.r2 (by kernel_rfl) (by simp) (by simp [Value.oneCell']) ?_) | fail)
      refine bodyPost_ret_by (results_cell_row (P := Try.prog) Try.results22 _ _ (w.heap.size + 1) _ _ (0, 0) _ rfl F2.out Try.underlying37 rfl (by kernel_rfl)) rfl ?_
      exact ⟨_, _, _, rfl, FF.out.1, FF.out.2.1, FF.out.2.2.1, FF.out.2.2.2⟩
end Go.Proofs.Ytpigbhmamaghgaa
