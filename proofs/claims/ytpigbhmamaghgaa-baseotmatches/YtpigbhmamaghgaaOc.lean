/- The chapter's example; BaseotRows. -/
import Derived.Test.YtpigbhmamaghgaaOb
namespace Go.Proofs.Ytpigbhmamaghgaa
open Go.RowKit Pg
set_option maxRecDepth 100000
attribute [local go_sem] not_any

theorem mixed : Try.prog.follows .mixedOrders = true := by kernel_rfl
/- two may come up -/
theorem ready2_f {P : Program} {ops : Array Oper} {Q : Exit → Act → World → Prop} {md : Region.Mode} {S : World → Prop} {F : List Nat} (i j : Nat) {o o' : Oper} {fuel : Nat} {listed : Array Bool} {a : Act} {w : World} (hr : Region.ready md ops listed = [i, j]) (ho : ops[i]? = some o) (ho' : ops[j]? = some o')
    (h : ∀ K : Act → World → Prop, Shut (∀ a' w', (i ∉ F → S w → S w') → wpAnyF P md ops Q S F fuel (listed.setIfInBounds i true) a' w' → K a' w') → if Region.wanted o (yielded ops a.tmps) = true then Oper.wp P o a w K Q else K (a.put o.dst undef) w)
    (h' : ∀ K : Act → World → Prop, Shut (∀ a' w', (j ∉ F → S w → S w') → wpAnyF P md ops Q S F fuel (listed.setIfInBounds j true) a' w' → K a' w') → if Region.wanted o' (yielded ops a.tmps) = true then Oper.wp P o' a w K Q else K (a.put o'.dst undef) w) :
    wpAnyF P md ops Q S F (fuel + 1) listed a w := by
  refine ⟨fun h0 => (by rw [hr] at h0; cases h0), ?_⟩
  intro k hk
  rw [hr] at hk
  rcases List.mem_cons.1 hk with e | hk
  · rw [e]
    exact wpOp_step ho (fun K hK => h K (fun a w hS hW => hK a w ⟨hS, hW⟩))
  · have e : k = j := by simpa using hk
    rw [e]
    exact wpOp_step ho' (fun K hK => h' K (fun a w hS hW => hK a w ⟨hS, hW⟩))

theorem skip_p {P : Program} {ops : Array Oper} {Q : Exit → Act → World → Prop} {md : Region.Mode} {S : World → Prop} {F : List Nat} (i d : Nat) {oi : Oper} {fuel : Nat} {listed : Array Bool} {tmps : Array Value} {ds : List Deferred} {w : World} (hi : ops[i]? = some oi) (hd : oi.dst = some d)
    (hs : Region.noSelect ops = true) (hf : Region.free md ops listed i = true) (hr : (Region.ready md ops listed).contains i = true)
    (hQ : ∀ c a w, Q (.panic c) (a.put oi.dst undef) w → Q (.panic c) a w) (hw : Region.wanted oi (yielded ops tmps) = false)
    (h : wpAnyF P md ops Q S F fuel (listed.setIfInBounds i true) ⟨tmps.setIfInBounds d undef, ds⟩ w) : wpAnyF P md ops Q S F (fuel + 1) listed ⟨tmps, ds⟩ w :=
  front (R := fun _ => True) (J := Clear md ops i oi) hi (Region.noSelect_spec hs) hQ
    (fun L j hL hri hrj hne => ⟨(hL.next hri hrj hne).1, (hL.next hri hrj hne).2, fun _ _ _ _ => trivial⟩)
    fuel listed _ w (Region.free_spec hi hf) (by simpa using hr) (Or.inr ⟨hw, rfl⟩) trivial (by rw [hd]; exact h)

/- nothing was held: from here on something is -/
theorem hold_f {P : Program} {ops : Array Oper} {Q : Exit → Act → World → Prop} {md : Region.Mode} {S : World → Prop} {F G : List Nat} : ∀ (fuel : Nat) (listed : Array Bool) (a : Act) (w : World), wpAnyF P md ops Q S F fuel listed a w → wpAnyF P md ops Q (fun _ => True) G fuel listed a w
  | 0, _, _, _, h => h
  | fuel + 1, _, _, _, h => ⟨h.1, fun i hi => wpOp_mono (fun a' w' h' => ⟨fun _ _ => trivial, hold_f fuel _ a' w' h'.2⟩) (h.2 i hi)⟩

/- a world in which all that was there in W is as it was -/
structure Bw (W : World) where
  w : World
  h : Below W.heap.size W w
theorem wp_region_quiet_bw {P : Program} {id : Nat} {Q : Exit → Act → World → Prop} {a : Act} {w : World} {l : List Oper} (hm : P.follows .mixedOrders = true) (hB : Region.lexB .any l.toArray = true)
    (h : wpQuiet P l.toArray (fun w' => ∃ p : Bw w, w' = p.w) (fun a' => ∀ w', (∃ p : Bw w, w' = p.w) → Q .normal a' w') l a) : (Code.region id l.toArray true).wp P Q a w :=
  wp_region_quiet (C := fun w' => ∃ p : Bw w, w' = p.w) hm hB ⟨⟨w.drew, (Below.refl _ _).drew⟩, rfl⟩ (by simpa using h)
theorem bw_of {P : Program} {f : FuncId} {args : Array Value} {W : World} {p : Bw W} {v : Value}
    (h : Calls P f args p.w fun e w' => e = .returned v ∧ Below p.w.heap.size p.w w') : Calls P f args p.w fun e w'' => e = .returned v ∧ ∃ p : Bw W, w'' = p.w :=
  h.mono fun _ w'' ⟨he, hb⟩ => ⟨he, ⟨w'', p.h.trans (hb.mono p.h.size)⟩, rfl⟩
theorem bw_cell {W : World} {a : Addr} {v : Value} (h : W.cell? a = some v) (p : Bw W) : p.w.cell? a = some v := (p.h.cell (block_lt_of_cell h)).trans h

theorem ex_by : txt (bysP 258 0 16) = ⟨#[2, 1, 0, 0, 0, 0, 0, 0, 0, 0, 0, 0, 0, 0, 0, 0]⟩ := by decide +kernel
theorem ex_tz : txt (zeros 14) = ⟨#[0, 0, 0, 0, 0, 0, 0, 0, 0, 0, 0, 0, 0, 0]⟩ := by decide +kernel
theorem awake_any (w : World) : Calls Try.prog 10 #[] w fun e w' => e = .returned (.bool true) ∧ Below w.heap.size w w' := by
  have k1 : ∀ w, Hid (Calls Try.prog 16 #[.agg #[.int .u64 1, .int .u64 0], .int .i64 0] w fun e w' => e = .returned (.bool true) ∧ Below w.heap.size w w') := fun w => bit_any 1 0 0 w (by decide) (by decide)
  have k2 : ∀ w, Hid (Calls Try.prog 16 #[.agg #[.int .u64 1, .int .u64 0], .int .i64 64] w fun e w' => e = .returned (.bool false) ∧ Below w.heap.size w w') := fun w => bit_any 1 0 64 w (by decide) (by decide)
  obtain ⟨tb, htb⟩ : ∃ tb, tb = txt (bysP 258 0 16) := ⟨_, rfl⟩
  obtain ⟨tz, htz⟩ : ∃ tz, tz = txt (zeros 14) := ⟨_, rfl⟩
  have k3 : ∀ w, Hid (Calls Try.prog 9 #[.agg #[.int .u64 258, .int .u64 0]] w fun e w' => e = .returned (.string tb) ∧ Below w.heap.size w w') := fun w => by rw [htb]; exact bytes16_any 258 0 w (by decide)
  have hmk := make_bytes 14 (by decide)
  rw [show ((14 : Nat) : Int) = 14 from rfl] at hmk
  have hcv : ∀ (w : World) (g : Nat), w.heap[g]? = some (row8 5 (zeros 14)) → (convert 59 9 (.slice (some ⟨g, 0, none⟩) 14 14)).run Try.prog w = .ok (.string tz) w := fun w g h => by rw [htz]; exact conv_row (cap := 14) h
  have hct : (⟨#[2, 1]⟩ : ByteArray) ++ tz = tb := by rw [htb, htz, ex_by, ex_tz]; rfl
  have hzs : tz.size = 14 := by rw [htz, ex_tz]; rfl
  have hbd : ¬ 9223372036854775807 < (⟨#[2, 1]⟩ : ByteArray).size + tz.size := by rw [hzs]; decide
  clear htb htz
  go_enter Try.func10, Try.ntmps10
  go_upto_region 1 with (fail)
  refine region_f (F := []) (S := fun w' => Below w.heap.size w w') (by kernel_rfl) ((Below.refl _ _).drew) (fun hS => ?_)
  refine take_p 0 1 (.agg #[.int .u64 1, .int .u64 0]) rfl rfl (by kernel_rfl) (by kernel_rfl) (by kernel_rfl) (fun _ _ _ h => h) rfl (fun w => by go_simp) ?_
  try simp only [List.setIfInBounds_toArray, List.set_cons_zero, List.set_cons_succ]
  refine ready_f 1 (o := { dst := some 2, op := Op.call { callee := Callee.value (Operand.func 16), args := #[Operand.tmp 1, Operand.const (Value.int IntKind.i64 0)], argTypes := #[26, 3] }, type := 4, pos := "law.go:12", after := #[{ on := 0, ground := Ground.data }], guard := none }) (by kernel_rfl) rfl (fun K hK => ?_)
  go_simp
  refine (k1 _).out.mono ?_
  rintro e w1 ⟨rfl, hb1⟩
  have hS1 : Below w.heap.size w w1 := hS.trans (hb1.mono hS.size)
  refine hK.out _ _ (fun _ _ => hS1) ?_
  clear hK K
  try simp only [Act.put, List.setIfInBounds_toArray, List.set_cons_zero, List.set_cons_succ]
  clear hb1 hS
  refine take_p 2 3 (.bool true) rfl rfl (by kernel_rfl) (by kernel_rfl) (by kernel_rfl) (fun _ _ _ h => h) rfl (fun w => by go_simp) ?_
  try simp only [List.setIfInBounds_toArray, List.set_cons_zero, List.set_cons_succ]
  refine take_p 3 4 (.agg #[.int .u64 1, .int .u64 0]) rfl rfl (by kernel_rfl) (by kernel_rfl) (by kernel_rfl) (fun _ _ _ h => h) rfl (fun w => by go_simp) ?_
  try simp only [List.setIfInBounds_toArray, List.set_cons_zero, List.set_cons_succ]
  refine ready_f 4 (o := { dst := some 5, op := Op.call { callee := Callee.value (Operand.func 16), args := #[Operand.tmp 4, Operand.const (Value.int IntKind.i64 64)], argTypes := #[26, 3] }, type := 4, pos := "law.go:12", after := #[{ on := 3, ground := Ground.data }, { on := 2, ground := Ground.chain }, { on := 2, ground := Ground.guard }], guard := some (2, true) }) (by kernel_rfl) rfl (fun K hK => ?_)
  go_simp
  refine (k2 _).out.mono ?_
  rintro e w2 ⟨rfl, hb2⟩
  have hS2 : Below w.heap.size w w2 := hS1.trans (hb2.mono hS1.size)
  refine hK.out _ _ (fun _ _ => hS2) ?_
  clear hK K
  try simp only [Act.put, List.setIfInBounds_toArray, List.set_cons_zero, List.set_cons_succ]
  clear hb2 hS1
  refine take_p 5 6 (.bool true) rfl rfl (by kernel_rfl) (by kernel_rfl) (by kernel_rfl) (fun _ _ _ h => h) rfl (fun w => by go_simp) ?_
  try simp only [List.setIfInBounds_toArray, List.set_cons_zero, List.set_cons_succ]
  refine take_p 6 7 (.bool true) rfl rfl (by kernel_rfl) (by kernel_rfl) (by kernel_rfl) (fun _ _ _ h => h) rfl (fun w => by go_simp) ?_
  try simp only [List.setIfInBounds_toArray, List.set_cons_zero, List.set_cons_succ]
  refine take_p 7 8 (.bool true) rfl rfl (by kernel_rfl) (by kernel_rfl) (by kernel_rfl) (fun _ _ _ h => h) rfl (fun w => by go_simp) ?_
  try simp only [List.setIfInBounds_toArray, List.set_cons_zero, List.set_cons_succ]
  refine take_p 8 9 (.agg #[.int .u64 258, .int .u64 0]) rfl rfl (by kernel_rfl) (by kernel_rfl) (by kernel_rfl) (fun _ _ _ h => h) rfl (fun w => by go_simp) ?_
  try simp only [List.setIfInBounds_toArray, List.set_cons_zero, List.set_cons_succ]
  refine ready2_f 9 10 (o := { dst := some 10, op := Op.call { callee := Callee.value (Operand.func 9), args := #[Operand.tmp 9], argTypes := #[26] }, type := 9, pos := "law.go:12", after := #[{ on := 8, ground := Ground.data }, { on := 7, ground := Ground.chain }, { on := 7, ground := Ground.guard }], guard := some (7, true) }) (o' := { dst := some 11, op := Op.makeSlice 59 (Operand.const (Value.int IntKind.i64 14)) (Operand.const (Value.int IntKind.i64 14)), type := 59, pos := "law.go:12", after := #[{ on := 7, ground := Ground.guard }], guard := some (7, true) }) (by kernel_rfl) rfl rfl (fun K hK => ?_) (fun K hK => ?_)
  · go_simp
    refine (k3 _).out.mono ?_
    rintro e w3 ⟨rfl, hb⟩
    have hS3 : Below w.heap.size w w3 := hS2.trans (hb.mono hS2.size)
    refine hK.out _ _ (fun _ _ => hS3) ?_
    clear hb
    clear hK K
    try simp only [Act.put, List.setIfInBounds_toArray, List.set_cons_zero, List.set_cons_succ]
    refine ready_f 10 (o := { dst := some 11, op := Op.makeSlice 59 (Operand.const (Value.int IntKind.i64 14)) (Operand.const (Value.int IntKind.i64 14)), type := 59, pos := "law.go:12", after := #[{ on := 7, ground := Ground.guard }], guard := some (7, true) }) (by kernel_rfl) rfl (fun K hK => ?_)
    go_simp
    have hS4 := hS3.alloc hS3.size (row8 5 (zeros 14))
    have hrow := heap_alloc_new w3 (row8 5 (zeros 14))
    refine hK.out _ _ (fun _ _ => hS4) ?_
    clear hK K
    try simp only [Act.put, List.setIfInBounds_toArray, List.set_cons_zero, List.set_cons_succ]
    refine ready_f 11 (o := { dst := some 12, op := Op.convert 59 9 (Operand.tmp 11), type := 9, pos := "law.go:12", after := #[{ on := 10, ground := Ground.data }, { on := 7, ground := Ground.guard }], guard := some (7, true) }) (by kernel_rfl) rfl (fun K hK => ?_)
    go_simp
    try simp only [hcv _ _ hrow]
    refine hK.out _ _ (fun _ h => h) ?_
    clear hK K
    try simp only [Act.put, List.setIfInBounds_toArray, List.set_cons_zero, List.set_cons_succ]
    refine take_p 12 13 (.string tb) rfl rfl (by kernel_rfl) (by kernel_rfl) (by kernel_rfl) (fun _ _ _ h => h) rfl (fun w => by go_simp) ?_
    try simp only [List.setIfInBounds_toArray, List.set_cons_zero, List.set_cons_succ]
    refine take_p 13 14 (.bool true) rfl rfl (by kernel_rfl) (by kernel_rfl) (by kernel_rfl) (fun _ _ _ h => h) rfl (fun w => by go_simp) ?_
    try simp only [List.setIfInBounds_toArray, List.set_cons_zero, List.set_cons_succ]
    refine take_p 14 15 (.bool true) rfl rfl (by kernel_rfl) (by kernel_rfl) (by kernel_rfl) (fun _ _ _ h => h) rfl (fun w => by go_simp) ?_
    try simp only [List.setIfInBounds_toArray, List.set_cons_zero, List.set_cons_succ]
    refine take_p 15 0 (.bool true) rfl rfl (by kernel_rfl) (by kernel_rfl) (by kernel_rfl) (fun _ _ _ h => h) rfl (fun w => by go_simp) ?_
    try simp only [List.setIfInBounds_toArray, List.set_cons_zero]
    refine done_f (by kernel_rfl) ?_ _
    go_wp2
    go_ret
    exact ⟨rfl, hS4⟩
  · go_simp
    have hS3 := hS2.alloc hS2.size (row8 5 (zeros 14))
    have hrow := heap_alloc_new w2 (row8 5 (zeros 14))
    refine hK.out _ _ (fun _ _ => hS3) ?_
    clear hK K
    try simp only [Act.put, List.setIfInBounds_toArray, List.set_cons_zero, List.set_cons_succ]
    refine ready2_f 9 11 (o := { dst := some 10, op := Op.call { callee := Callee.value (Operand.func 9), args := #[Operand.tmp 9], argTypes := #[26] }, type := 9, pos := "law.go:12", after := #[{ on := 8, ground := Ground.data }, { on := 7, ground := Ground.chain }, { on := 7, ground := Ground.guard }], guard := some (7, true) }) (o' := { dst := some 12, op := Op.convert 59 9 (Operand.tmp 11), type := 9, pos := "law.go:12", after := #[{ on := 10, ground := Ground.data }, { on := 7, ground := Ground.guard }], guard := some (7, true) }) (by kernel_rfl) rfl rfl (fun K hK => ?_) (fun K hK => ?_)
    · go_simp
      refine (k3 _).out.mono ?_
      rintro e w4 ⟨rfl, hb⟩
      have hS4 : Below w.heap.size w w4 := hS3.trans (hb.mono hS3.size)
      have hrow := (hb.block _ (lt_heap hrow)).trans hrow
      refine hK.out _ _ (fun _ _ => hS4) ?_
      clear hb
      clear hK K
      try simp only [Act.put, List.setIfInBounds_toArray, List.set_cons_zero, List.set_cons_succ]
      refine ready_f 11 (o := { dst := some 12, op := Op.convert 59 9 (Operand.tmp 11), type := 9, pos := "law.go:12", after := #[{ on := 10, ground := Ground.data }, { on := 7, ground := Ground.guard }], guard := some (7, true) }) (by kernel_rfl) rfl (fun K hK => ?_)
      go_simp
      try simp only [hcv _ _ hrow]
      refine hK.out _ _ (fun _ h => h) ?_
      clear hK K
      try simp only [Act.put, List.setIfInBounds_toArray, List.set_cons_zero, List.set_cons_succ]
      refine take_p 12 13 (.string tb) rfl rfl (by kernel_rfl) (by kernel_rfl) (by kernel_rfl) (fun _ _ _ h => h) rfl (fun w => by go_simp) ?_
      try simp only [List.setIfInBounds_toArray, List.set_cons_zero, List.set_cons_succ]
      refine take_p 13 14 (.bool true) rfl rfl (by kernel_rfl) (by kernel_rfl) (by kernel_rfl) (fun _ _ _ h => h) rfl (fun w => by go_simp) ?_
      try simp only [List.setIfInBounds_toArray, List.set_cons_zero, List.set_cons_succ]
      refine take_p 14 15 (.bool true) rfl rfl (by kernel_rfl) (by kernel_rfl) (by kernel_rfl) (fun _ _ _ h => h) rfl (fun w => by go_simp) ?_
      try simp only [List.setIfInBounds_toArray, List.set_cons_zero, List.set_cons_succ]
      refine take_p 15 0 (.bool true) rfl rfl (by kernel_rfl) (by kernel_rfl) (by kernel_rfl) (fun _ _ _ h => h) rfl (fun w => by go_simp) ?_
      try simp only [List.setIfInBounds_toArray, List.set_cons_zero]
      refine done_f (by kernel_rfl) ?_ _
      go_wp2
      go_ret
      exact ⟨rfl, hS4⟩
    · go_simp
      try simp only [hcv _ _ hrow]
      refine hK.out _ _ (fun _ h => h) ?_
      clear hK K
      try simp only [Act.put, List.setIfInBounds_toArray, List.set_cons_zero, List.set_cons_succ]
      refine take_p 12 13 (.string tb) rfl rfl (by kernel_rfl) (by kernel_rfl) (by kernel_rfl) (fun _ _ _ h => h) rfl (fun w => by go_simp) ?_
      try simp only [List.setIfInBounds_toArray, List.set_cons_zero, List.set_cons_succ]
      refine ready_f 9 (o := { dst := some 10, op := Op.call { callee := Callee.value (Operand.func 9), args := #[Operand.tmp 9], argTypes := #[26] }, type := 9, pos := "law.go:12", after := #[{ on := 8, ground := Ground.data }, { on := 7, ground := Ground.chain }, { on := 7, ground := Ground.guard }], guard := some (7, true) }) (by kernel_rfl) rfl (fun K hK => ?_)
      go_simp
      refine (k3 _).out.mono ?_
      rintro e w4 ⟨rfl, hb⟩
      have hS4 : Below w.heap.size w w4 := hS3.trans (hb.mono hS3.size)
      refine hK.out _ _ (fun _ _ => hS4) ?_
      clear hb
      clear hK K
      try simp only [Act.put, List.setIfInBounds_toArray, List.set_cons_zero, List.set_cons_succ]
      refine take_p 13 14 (.bool true) rfl rfl (by kernel_rfl) (by kernel_rfl) (by kernel_rfl) (fun _ _ _ h => h) rfl (fun w => by go_simp) ?_
      try simp only [List.setIfInBounds_toArray, List.set_cons_zero, List.set_cons_succ]
      refine take_p 14 15 (.bool true) rfl rfl (by kernel_rfl) (by kernel_rfl) (by kernel_rfl) (fun _ _ _ h => h) rfl (fun w => by go_simp) ?_
      try simp only [List.setIfInBounds_toArray, List.set_cons_zero, List.set_cons_succ]
      refine take_p 15 0 (.bool true) rfl rfl (by kernel_rfl) (by kernel_rfl) (by kernel_rfl) (fun _ _ _ h => h) rfl (fun w => by go_simp) ?_
      try simp only [List.setIfInBounds_toArray, List.set_cons_zero]
      refine done_f (by kernel_rfl) ?_ _
      go_wp2
      go_ret
      exact ⟨rfl, hS4⟩

end Go.Proofs.Ytpigbhmamaghgaa
