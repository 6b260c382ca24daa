/- does: Send. -/
import Derived.Test.YtcadlcpccemkbaaGreatDoorMFzHa
namespace Go.Proofs.YtcadlcpccemkbaaGreatDoor
open Go.RowKit
set_option maxRecDepth 100000
attribute [local go_sem] not_any

def Smid (B s n : Nat) (v m u : Value) (x xs : Ls) (LL : List ByteArray) (LLv hv : Value) (gr ga g7 : Nat) (W1 : World) (x9 : Value) (W : World) : Prop :=
  ∃ g9 lv' RS, x9 = .pointer (some ⟨g9, 0, none⟩) ∧ RS = rcs xs LLv hv lv' ∧ Dw B s n v m u x xs LL LLv hv lv' (fun b => ((b = gr ∨ b = ga) ∨ b = g7) ∨ b = g9) W ∧ W.heap[g9]? = some (.cells RS 39 (0, 0)) ∧ Below W1.heap.size W1 W
theorem smid {B s n : Nat} {v m u : Value} {x xs : Ls} {LL : List ByteArray} {LLv hv lv' : Value} {gr ga g7 g9 : Nat} {W1 W : World} {RS : Array Value} {c0 : Array Value} (hRS : RS = rcs xs LLv hv lv')
    (hD : Dw B s n v m u x xs LL LLv hv lv' (fun b => ((b = gr ∨ b = ga) ∨ b = g7) ∨ b = g9) W) (hrow : W.heap[g9]? = some (.cells c0 39 (0, 0))) (hb : Below W1.heap.size W1 W) (hg : W1.heap.size ≤ g9) : Smid B s n v m u x xs LL LLv hv gr ga g7 W1 (.pointer (some ⟨g9, 0, none⟩)) (W.setRow g9 RS) :=
  ⟨g9, lv', RS, rfl, hRS, (hD.row (.inr rfl) _).1, setRow_heap _ _ _ _ _ _ hrow, below_setRow hb hg _⟩

set_option maxHeartbeats 8000000 in
theorem does_0 {N B s gr n M : Nat} {x : Ls} {w : World} (h : Dv B s gr n x M w) (hx : x.Ok N) (hN : N + 1000 < 4294967296) (hn : n < 1000000) (hM : M ≤ 900) (kd : Int) (body : ByteArray) (hb : body.size ≤ 1000) (fk : Int) (fo fp fq fa : Nat) (fb : ByteArray) (hk : kd = 0) :
    Calls Tryz.prog 9 #[.pointer (some ⟨s, 0, none⟩), .pointer (some ⟨gr, 0, none⟩), .agg #[.int .i64 kd, .string body, .int .i64 fk, .int .u32 (fo : Int), .int .u32 (fp : Int), .int .u32 (fq : Int), .int .u32 (fa : Int), .string fb]] w fun e w' => e = .returned (.bool true) ∧ ∃ y, y.Ok (N + 16) ∧ Dv B s gr (n + 1) y (M + 1) w' ∧ Below B w w' := by
  have HKD := hide1 hk
  clear hk
  obtain ⟨v, m, u, LL, LLv, hv, lv, hD, hbox, hsum⟩ := h
  obtain ⟨RR, hRR⟩ : ∃ R, R = rcs x LLv hv lv := ⟨_, rfl⟩
  have SZ : Hid (Option.map (fun x => x.size) (Tryz.prog.info? 39) = some RR.size) := by rw [hRR]; exact sz10 rfl
  have ONE : Hid (RR.all (·.oneCell') = true) := by rw [hRR]; exact rcs_one x hD.rf
  have S10 : Hid (RR.size = 10) := by rw [hRR]; rfl
  rw [← hRR] at hbox
  have HRR := hide1 hRR
  have HX := hide1 hx
  have HN := hide1 hN
  have HM := hide1 hM
  have HNN := hide1 hn
  have HB := hide1 hb
  have HSUM := hide1 hsum
  have D0 := hide1 hD
  have BX0 := hide1 hbox
  obtain ⟨Q, hQ⟩ : ∃ Q : World → Prop, Q = fun w' => ∃ y, y.Ok (N + 16) ∧ Dv B s gr (n + 1) y (M + 1) w' ∧ Below B w w' := ⟨_, rfl⟩
  have HQ : Hid (∀ w' y, y.Ok (N + 16) → Dv B s gr (n + 1) y (M + 1) w' → Below B w w' → Q w') := fun w' y h1 h2 h3 => by rw [hQ]; exact ⟨y, h1, h2, h3⟩
  suffices hs : Calls Tryz.prog 9 #[.pointer (some ⟨s, 0, none⟩), .pointer (some ⟨gr, 0, none⟩), .agg #[.int .i64 kd, .string body, .int .i64 fk, .int .u32 (fo : Int), .int .u32 (fp : Int), .int .u32 (fq : Int), .int .u32 (fa : Int), .string fb]] w fun e w' => e = .returned (.bool true) ∧ Q w' by rw [hQ] at hs; exact hs
  clear hQ hD hbox hsum hRR hx hN hM hn hb
  go_enter Tryz.func9, Tryz.ntmps9
  go_upto_region 1 with (fail)
  generalize hW : World.alloc w _ = W0
  have DA := hide1 (hW ▸ D0.out.more (.cells #[.int .i64 kd, .string body, .int .i64 fk, .int .u32 (fo : Int), .int .u32 (fp : Int), .int .u32 (fq : Int), .int .u32 (fa : Int), .string fb] 44))
  have A0 : Hid (W0.heap[w.heap.size]? = some (.cells #[.int .i64 kd, .string body, .int .i64 fk, .int .u32 (fo : Int), .int .u32 (fp : Int), .int .u32 (fq : Int), .int .u32 (fa : Int), .string fb] 44 (0, 0))) := by unfold Hid; rw [← hW]; exact heap_alloc_new w _
  have b0 : Below w.heap.size w W0 := by rw [← hW]; exact below1 _
  have BXA := hide1 ((b0.block gr (D0.out.bs gr rfl).2.1).trans BX0.out)
  obtain ⟨ga, hga⟩ : ∃ ga, w.heap.size = ga := ⟨_, rfl⟩
  have BB0 : Hid (Below B w W0) := b0.mono D0.out.size
  rw [hga] at DA A0
  try rw [hga]
  clear hW b0 hga D0 BX0
  go_upto_region 2 with (first | (refine wpList_load_row rfl 39 (.tmp 21) rfl gr rfl 39 RR (0, 0) _ BXA.out Tryz.underlying39 rfl SZ.out ?_) | (refine wpList_store_row rfl 39 (.tmp 7) (.tmp 22) rfl W0.heap.size RR rfl rfl 39 _ (heap_alloc_new W0 _) SZ.out S10.out.symm ONE.out ?_) | fail)
  generalize hW : World.setRow (World.alloc W0 _) _ _ = W1
  have b1 : Below W0.heap.size W0 W1 := by rw [← hW]; exact below_setRow (below1 _) (Nat.le_refl _) _
  have D1 : Hid (Dw B s n v m u x x LL LLv hv lv (fun b => (b = gr ∨ b = ga) ∨ b = W0.heap.size) W1) := by
    unfold Hid
    rw [← hW]
    exact ((DA.out.more _).row (.inr rfl) _).1
  have G7 : Hid (W1.heap[W0.heap.size]? = some (.cells RR 39 (0, 0))) := by unfold Hid; rw [← hW]; exact setRow_heap _ _ _ _ _ _ (heap_alloc_new W0 _)
  have A1 := hide1 ((b1.block _ (lt_heap A0.out)).trans A0.out)
  have BX1 := hide1 ((b1.block _ (lt_heap BXA.out)).trans BXA.out)
  have BB1 : Hid (Below B w W1) := BB0.out.trans (b1.mono DA.out.size)
  have NEQ : Hid (gr < W0.heap.size) := (DA.out.bs gr (.inl rfl)).2.1
  obtain ⟨g7, hg7⟩ : ∃ g7, W0.heap.size = g7 := ⟨_, rfl⟩
  rw [hg7] at D1 G7 NEQ
  try rw [hg7]
  clear hW b1 hg7 DA A0 BXA BB0
  obtain ⟨⟨k0, k1, _⟩, kfr⟩ := act_cells A1.out

  have gk0 : ((kd : Int) == 0) = true := by simp [HKD.out]
  have K1 := hide1 k1
  obtain ⟨xs, hxs⟩ : ∃ xs, xs = x.send body := ⟨_, rfl⟩
  obtain ⟨sc, hsc⟩ : ∃ sc, sc = x.sendC body := ⟨_, rfl⟩
  have HXS := hide1 hxs
  have HSC := hide1 hsc
  have kS : Hid (∀ X, Below W1.heap.size W1 X → Calls Tryz.prog 26 #[.agg RR, .string body] X fun e w' => ∃ lv' RS, e = .returned (.tuple #[.agg RS, .int .i64 (sc : Int)]) ∧ RS = rcs xs LLv hv lv' ∧ Rfp x LL LLv hv lv X xs LL LLv hv lv' w') := fun X hX => by
    have k := rsend_any x LL LLv hv lv body X (D1.out.below hX).rf
    rw [hxs, hsc]
    unfold rv at k
    rw [← HRR.out] at k
    refine k.mono ?_
    rintro e w' ⟨lv', rfl, h1⟩
    exact ⟨lv', _, rfl, rfl, h1⟩
  clear hxs hsc
  go_upto_region 11 with (fail)
  clear k0 k1 kfr
  go_cut [9, 10] from 72 to 80 (fun x9 x10 wx => x10 = .int .i64 (sc : Int) ∧ Smid B s n v m u x xs LL LLv hv gr ga g7 W1 x9 wx)
  case first =>
      refine region_f (F := [10]) (S := fun X => Below W1.heap.size W1 X) (by kernel_rfl) (Below.refl _ _).drew (fun hS => ?_)
      refine take_p 0 73 (.pointer (some ⟨gr, 0, none⟩)) rfl rfl (by kernel_rfl) (by kernel_rfl) (by kernel_rfl) (fun _ _ _ h => h) rfl (fun w => by go_simp) ?_
      try simp only [List.setIfInBounds_toArray, List.set_cons_zero, List.set_cons_succ]
      refine take_p 1 74 (.pointer (some ⟨gr, 0, none⟩)) rfl rfl (by kernel_rfl) (by kernel_rfl) (by kernel_rfl) (fun _ _ _ h => h) rfl (fun w => by go_simp) ?_
      try simp only [List.setIfInBounds_toArray, List.set_cons_zero, List.set_cons_succ]
      refine take_f 2 75 (.agg RR) [5, 6, 7, 8, 10, 11] rfl rfl (by kernel_rfl) (by kernel_rfl) (by kernel_rfl) (by kernel_rfl) (by kernel_rfl) (by kernel_rfl) (fun _ _ _ h => h) rfl (fun w hSw => by exact exec_load_box 39 (.tmp 74) rfl _ rfl 39 _ _ ((hSw.block gr (lt_heap BX1.out)).trans BX1.out) Tryz.underlying39 rfl SZ.out) hS ?_
      try simp only [List.setIfInBounds_toArray, List.set_cons_zero, List.set_cons_succ]
      refine take_p 3 76 (.pointer (some ⟨ga, 1, none⟩)) rfl rfl (by kernel_rfl) (by kernel_rfl) (by kernel_rfl) (fun _ _ _ h => h) rfl (fun w => by go_simp) ?_
      try simp only [List.setIfInBounds_toArray, List.set_cons_zero, List.set_cons_succ]
      refine take_f 4 77 (.string body) [5, 6, 7, 8, 10, 11] rfl rfl (by kernel_rfl) (by kernel_rfl) (by kernel_rfl) (by kernel_rfl) (by kernel_rfl) (by kernel_rfl) (fun _ _ _ h => h) rfl (fun w hSw => by have h1 := (hSw.cell (p := ⟨ga, 1, none⟩) (lt_heap A1.out)).trans K1.out; go_simp) hS ?_
      try simp only [List.setIfInBounds_toArray, List.set_cons_zero, List.set_cons_succ]
      refine ready2_f 5 9 (o := { dst := some 78, op := Op.call { callee := Callee.value (Operand.func 26), args := #[Operand.tmp 75, Operand.tmp 77], argTypes := #[46, 9] }, type := 77, pos := "law.go:44", after := #[{ on := 2, ground := Ground.data }, { on := 4, ground := Ground.data }], guard := none }) (o' := { dst := some 9, op := Op.alloc 39, type := 0, pos := "law.go:44", after := #[], guard := none }) (by kernel_rfl) rfl rfl (fun K hK => ?_) (fun K hK => ?_)
      · go_simp
        refine (kS.out _ hS).mono ?_
        rintro e w1 ⟨lv', RS, rfl, hRS, hp⟩
        have HRS := hide1 hRS
        clear hRS
        have hS1 : Below W1.heap.size W1 w1 := hS.trans (hp.2.1.mono hS.size)
        refine hK.out _ _ (fun _ _ => hS1) ?_
        clear hK K
        try simp only [Act.put, List.setIfInBounds_toArray, List.set_cons_zero, List.set_cons_succ]
        refine take_p 6 72 (.tuple #[.agg RS, .int .i64 (sc : Int)]) rfl rfl (by kernel_rfl) (by kernel_rfl) (by kernel_rfl) (fun _ _ _ h => h) rfl (fun w => by go_simp) ?_
        try simp only [List.setIfInBounds_toArray, List.set_cons_zero, List.set_cons_succ]
        refine take_p 7 79 (.agg RS) rfl rfl (by kernel_rfl) (by kernel_rfl) (by kernel_rfl) (fun _ _ _ h => h) rfl (fun w => by go_simp) ?_
        try simp only [List.setIfInBounds_toArray, List.set_cons_zero, List.set_cons_succ]
        refine take_p 8 80 (.int .i64 (sc : Int)) rfl rfl (by kernel_rfl) (by kernel_rfl) (by kernel_rfl) (fun _ _ _ h => h) rfl (fun w => by go_simp) ?_
        try simp only [List.setIfInBounds_toArray, List.set_cons_zero, List.set_cons_succ]
        refine ready_f 9 (o := { dst := some 9, op := Op.alloc 39, type := 0, pos := "law.go:44", after := #[], guard := none }) (by kernel_rfl) rfl (fun K hK => ?_)
        go_simp
        have row9 := heap_alloc_new w1 (.cells #[.int .u32 0, .int .u32 0, .bool false, .int .i64 0, .slice none 0 0, .int .i64 0, .int .i64 0, .slice none 0 0, .slice none 0 0, .bool false] 39)
        have hS2 : Below W1.heap.size W1 (w1.alloc (.cells #[.int .u32 0, .int .u32 0, .bool false, .int .i64 0, .slice none 0 0, .int .i64 0, .int .i64 0, .slice none 0 0, .slice none 0 0, .bool false] 39)) := hS1.alloc hS1.size _
        refine hK.out _ _ (fun _ _ => hS2) ?_
        clear hK K
        try simp only [Act.put, List.setIfInBounds_toArray, List.set_cons_zero, List.set_cons_succ]
        have CS : (#[.int .u32 0, .int .u32 0, .bool false, .int .i64 0, .slice none 0 0, .int .i64 0, .int .i64 0, .slice none 0 0, .slice none 0 0, .bool false] : Array Value).size = RS.size := by rw [HRS.out]; rfl
        have SZS : Option.map (fun x => x.size) (Tryz.prog.info? 39) = some RS.size := by rw [HRS.out]; exact sz10 rfl
        have ONS : RS.all (·.oneCell') = true := by rw [HRS.out]; exact rcs_one xs (((D1.out.below hS).doc hp).more (.cells #[.int .u32 0, .int .u32 0, .bool false, .int .i64 0, .slice none 0 0, .int .i64 0, .int .i64 0, .slice none 0 0, .slice none 0 0, .bool false] 39)).rf
        refine ready_f 10 (o := { dst := none, op := Op.store 39 (Operand.tmp 9) (Operand.tmp 79), type := 0, pos := "law.go:44", after := #[{ on := 9, ground := Ground.data }, { on := 7, ground := Ground.data }, { on := 5, ground := Ground.chain }, { on := 0, ground := Ground.phase }, { on := 1, ground := Ground.phase }, { on := 2, ground := Ground.phase }, { on := 3, ground := Ground.phase }, { on := 4, ground := Ground.phase }, { on := 5, ground := Ground.phase }, { on := 6, ground := Ground.phase }, { on := 7, ground := Ground.phase }, { on := 8, ground := Ground.textOnly Departure.lateStores }, { on := 9, ground := Ground.phase }], guard := none }) (by kernel_rfl) rfl (fun K hK => ?_)
        rw [if_pos (by rfl)]
        refine wp_store_row 39 _ _ rfl (w1.heap.size) RS rfl rfl 39 _ row9 SZS CS ONS ?_
        refine hK.out _ _ (fun h => absurd (by decide) h) ?_
        clear hK K
        refine take_p 11 10 (.int .i64 (sc : Int)) rfl rfl (by kernel_rfl) (by kernel_rfl) (by kernel_rfl) (fun _ _ _ h => h) rfl (fun w => by go_simp) ?_
        try simp only [List.setIfInBounds_toArray, List.set_cons_zero, List.set_cons_succ]
        refine done_f (by kernel_rfl) ?_ _
        have FN : Hid (Smid B s n v m u x xs LL LLv hv gr ga g7 W1 (.pointer (some ⟨w1.heap.size, 0, none⟩)) _) := smid HRS.out (((D1.out.below hS).doc hp).more (.cells #[.int .u32 0, .int .u32 0, .bool false, .int .i64 0, .slice none 0 0, .int .i64 0, .int .i64 0, .slice none 0 0, .slice none 0 0, .bool false] 39)) row9 hS2 (by have := hS.size; have := hS1.size; omega)
        clear hS hS1 hS2 hp CS SZS ONS
        go_wp2
        go_meet
        exact ⟨rfl, FN.out⟩
      · go_simp
        have row9 := heap_alloc_new W1.drew (.cells #[.int .u32 0, .int .u32 0, .bool false, .int .i64 0, .slice none 0 0, .int .i64 0, .int .i64 0, .slice none 0 0, .slice none 0 0, .bool false] 39)
        have hS2 : Below W1.heap.size W1 (W1.drew.alloc (.cells #[.int .u32 0, .int .u32 0, .bool false, .int .i64 0, .slice none 0 0, .int .i64 0, .int .i64 0, .slice none 0 0, .slice none 0 0, .bool false] 39)) := hS.alloc hS.size _
        have hS1 := hS2
        refine hK.out _ _ (fun _ _ => hS2) ?_
        clear hK K
        try simp only [Act.put, List.setIfInBounds_toArray, List.set_cons_zero, List.set_cons_succ]
        refine ready_f 5 (o := { dst := some 78, op := Op.call { callee := Callee.value (Operand.func 26), args := #[Operand.tmp 75, Operand.tmp 77], argTypes := #[46, 9] }, type := 77, pos := "law.go:44", after := #[{ on := 2, ground := Ground.data }, { on := 4, ground := Ground.data }], guard := none }) (by kernel_rfl) rfl (fun K hK => ?_)
        go_simp
        refine (kS.out _ hS2).mono ?_
        rintro e w1 ⟨lv', RS, rfl, hRS, hp⟩
        have HRS := hide1 hRS
        clear hRS
        have hS3 : Below W1.heap.size W1 w1 := hS2.trans (hp.2.1.mono hS2.size)
        refine hK.out _ _ (fun _ _ => hS3) ?_
        clear hK K
        try simp only [Act.put, List.setIfInBounds_toArray, List.set_cons_zero, List.set_cons_succ]
        clear hS2
        have hS2 := hS3
        clear hS3
        have row91 := (hp.2.1.block _ (lt_heap row9)).trans row9
        refine take_p 6 72 (.tuple #[.agg RS, .int .i64 (sc : Int)]) rfl rfl (by kernel_rfl) (by kernel_rfl) (by kernel_rfl) (fun _ _ _ h => h) rfl (fun w => by go_simp) ?_
        try simp only [List.setIfInBounds_toArray, List.set_cons_zero, List.set_cons_succ]
        refine take_p 7 79 (.agg RS) rfl rfl (by kernel_rfl) (by kernel_rfl) (by kernel_rfl) (fun _ _ _ h => h) rfl (fun w => by go_simp) ?_
        try simp only [List.setIfInBounds_toArray, List.set_cons_zero, List.set_cons_succ]
        refine take_p 8 80 (.int .i64 (sc : Int)) rfl rfl (by kernel_rfl) (by kernel_rfl) (by kernel_rfl) (fun _ _ _ h => h) rfl (fun w => by go_simp) ?_
        try simp only [List.setIfInBounds_toArray, List.set_cons_zero, List.set_cons_succ]
        have CS : (#[.int .u32 0, .int .u32 0, .bool false, .int .i64 0, .slice none 0 0, .int .i64 0, .int .i64 0, .slice none 0 0, .slice none 0 0, .bool false] : Array Value).size = RS.size := by rw [HRS.out]; rfl
        have SZS : Option.map (fun x => x.size) (Tryz.prog.info? 39) = some RS.size := by rw [HRS.out]; exact sz10 rfl
        have ONS : RS.all (·.oneCell') = true := by rw [HRS.out]; exact rcs_one xs (((D1.out.below hS).more (.cells #[.int .u32 0, .int .u32 0, .bool false, .int .i64 0, .slice none 0 0, .int .i64 0, .int .i64 0, .slice none 0 0, .slice none 0 0, .bool false] 39)).doc hp).rf
        refine ready_f 10 (o := { dst := none, op := Op.store 39 (Operand.tmp 9) (Operand.tmp 79), type := 0, pos := "law.go:44", after := #[{ on := 9, ground := Ground.data }, { on := 7, ground := Ground.data }, { on := 5, ground := Ground.chain }, { on := 0, ground := Ground.phase }, { on := 1, ground := Ground.phase }, { on := 2, ground := Ground.phase }, { on := 3, ground := Ground.phase }, { on := 4, ground := Ground.phase }, { on := 5, ground := Ground.phase }, { on := 6, ground := Ground.phase }, { on := 7, ground := Ground.phase }, { on := 8, ground := Ground.textOnly Departure.lateStores }, { on := 9, ground := Ground.phase }], guard := none }) (by kernel_rfl) rfl (fun K hK => ?_)
        rw [if_pos (by rfl)]
        refine wp_store_row 39 _ _ rfl (W1.heap.size) RS rfl rfl 39 _ row91 SZS CS ONS ?_
        refine hK.out _ _ (fun h => absurd (by decide) h) ?_
        clear hK K
        refine take_p 11 10 (.int .i64 (sc : Int)) rfl rfl (by kernel_rfl) (by kernel_rfl) (by kernel_rfl) (fun _ _ _ h => h) rfl (fun w => by go_simp) ?_
        try simp only [List.setIfInBounds_toArray, List.set_cons_zero, List.set_cons_succ]
        refine done_f (by kernel_rfl) ?_ _
        have FN : Hid (Smid B s n v m u x xs LL LLv hv gr ga g7 W1 (.pointer (some ⟨W1.heap.size, 0, none⟩)) _) := smid HRS.out (((D1.out.below hS).more (.cells #[.int .u32 0, .int .u32 0, .bool false, .int .i64 0, .slice none 0 0, .int .i64 0, .int .i64 0, .slice none 0 0, .slice none 0 0, .bool false] 39)).doc hp) row91 hS2 (by have := hS.size; have := hS1.size; omega)
        clear hS hS1 hS2 hp CS SZS ONS
        go_wp2
        go_meet
        exact ⟨rfl, FN.out⟩
  case rest =>
    obtain ⟨rfl, g9, lv', RS, rfl, hRS, hD2, hG9, hB2⟩ := hcut
    have HRX := hide1 hRS
    have D2 := hide1 hD2
    have G9 := hide1 hG9
    have G72 := hide1 ((hB2.block g7 (lt_heap G7.out)).trans G7.out)
    have BX2 := hide1 ((hB2.block gr (lt_heap BX1.out)).trans BX1.out)
    have K12 := hide1 ((hB2.cell (p := ⟨ga, 1, none⟩) (lt_heap A1.out)).trans K1.out)
    have BB2 : Hid (Below B w wc) := BB1.out.trans (hB2.mono D1.out.size)
    have SZS : Hid (Option.map (fun x => x.size) (Tryz.prog.info? 39) = some RS.size) := by rw [hRS]; exact sz10 rfl
    have CSX : Hid (RR.size = RS.size) := by rw [S10.out, hRS]; rfl
    have ONS : Hid (RS.all (·.oneCell') = true) := by rw [hRS]; exact rcs_one xs D2.out.rf
    clear hRS hD2 hG9 hB2 kS
    go_upto_region 12 with (fail)
    refine region_f (F := [8]) (S := fun X => X.heap[g9]? = some (.cells RS 39 (0, 0)) ∧ X.cell? ⟨ga, 1, none⟩ = some (.string body)) (by kernel_rfl) ⟨G9.out, K12.out⟩ (fun hS => ?_)
    refine take_f 0 81 (.agg RS) [8, 9] rfl rfl (by kernel_rfl) (by kernel_rfl) (by kernel_rfl) (by kernel_rfl) (by kernel_rfl) (by kernel_rfl) (fun _ _ _ h => h) rfl (fun w hSw => by exact exec_load_box 39 (.tmp 9) rfl _ rfl 39 _ _ (hSw.1) Tryz.underlying39 rfl SZS.out) hS ?_
    try simp only [List.setIfInBounds_toArray, List.set_cons_zero, List.set_cons_succ]
    refine take_p 1 82 (.pointer (some ⟨s, 0, none⟩)) rfl rfl (by kernel_rfl) (by kernel_rfl) (by kernel_rfl) (fun _ _ _ h => h) rfl (fun w => by go_simp) ?_
    try simp only [List.setIfInBounds_toArray, List.set_cons_zero, List.set_cons_succ]
    refine take_p 2 83 (.pointer (some ⟨ga, 1, none⟩)) rfl rfl (by kernel_rfl) (by kernel_rfl) (by kernel_rfl) (fun _ _ _ h => h) rfl (fun w => by go_simp) ?_
    try simp only [List.setIfInBounds_toArray, List.set_cons_zero, List.set_cons_succ]
    refine take_f 3 84 (.string body) [4, 5, 7, 8, 9] rfl rfl (by kernel_rfl) (by kernel_rfl) (by kernel_rfl) (by kernel_rfl) (by kernel_rfl) (by kernel_rfl) (fun _ _ _ h => h) rfl (fun w hSw => by have h1 := hSw.2; go_simp) hS ?_
    try simp only [List.setIfInBounds_toArray, List.set_cons_zero, List.set_cons_succ]
    refine take_p 6 87 (.int .i64 (sc : Int)) rfl rfl (by kernel_rfl) (by kernel_rfl) (by kernel_rfl) (fun _ _ _ h => h) rfl (fun w => by go_simp) ?_
    try simp only [List.setIfInBounds_toArray, List.set_cons_zero, List.set_cons_succ]
    have D2d := hide1 (D2.out.below (Below.refl _ _).drew)
    refine ready_f 4 (o := { dst := some 85, op := Op.call { callee := Callee.value (Operand.func 11), args := #[Operand.tmp 82, Operand.tmp 84], argTypes := #[24, 9] }, type := 26, pos := "law.go:45", after := #[{ on := 1, ground := Ground.data }, { on := 3, ground := Ground.data }], guard := none }) (by kernel_rfl) rfl (fun K hK => ?_)
    go_simp
    refine (lsend_any D2d.out.lk D2d.out.size HX.out.own0 HX.out.Q64 body (by have := HB.out; omega)).mono ?_
    rintro e w3 ⟨z, rfl, hEr, hLk⟩
    rw [← HSC.out] at hEr
    rw [← HXS.out] at hLk
    obtain ⟨v3, m3, u3, D3, hb3, hk3⟩ := D2d.out.prog hLk
    have G93 : w3.heap[g9]? = some (.cells RS 39 (0, 0)) := (hk3 g9 (.inr rfl)).trans G9.out
    have K13 : w3.cell? ⟨ga, 1, none⟩ = some (.string body) := (World.cell?_of_block (a := ⟨ga, 1, none⟩) (hk3 ga (.inl (.inl (.inr rfl))))).trans K12.out
    refine hK.out _ _ (fun _ _ => ⟨G93, K13⟩) ?_
    clear hK K
    try simp only [Act.put, List.setIfInBounds_toArray, List.set_cons_zero, List.set_cons_succ]
    refine ready_f 5 (o := { dst := some 86, op := Op.call { callee := Callee.value (Operand.func 6), args := #[Operand.tmp 85], argTypes := #[26] }, type := 29, pos := "law.go:45", after := #[{ on := 4, ground := Ground.data }, { on := 4, ground := Ground.chain }], guard := none }) (by kernel_rfl) rfl (fun K hK => ?_)
    go_simp
    refine (code_erl _ _ z D3.et (Er.erl hEr)).mono ?_
    rintro e w4 ⟨rfl, hb4⟩
    refine hK.out _ _ (fun _ _ => ⟨(hb4.block g9 (lt_heap G93)).trans G93, (hb4.cell (p := ⟨ga, 1, none⟩) (World.block_lt_of_cell? _ _ K13)).trans K13⟩) ?_
    clear hK K
    try simp only [Act.put, List.setIfInBounds_toArray, List.set_cons_zero, List.set_cons_succ]
    refine take_p 7 88 (.bool true) rfl rfl (by kernel_rfl) (by kernel_rfl) (by kernel_rfl) (fun _ _ _ h => h) rfl (fun w => by go_simp) ?_
    try simp only [List.setIfInBounds_toArray, List.set_cons_zero, List.set_cons_succ]
    have G74 := (hb4.block g7 (D3.bs g7 (.inl (.inr rfl))).2.1).trans ((hk3 g7 (.inl (.inr rfl))).trans G72.out)
    have BX4 := hide1 ((hb4.block gr (D3.bs gr (.inl (.inl (.inl rfl)))).2.1).trans ((hk3 gr (.inl (.inl (.inl rfl)))).trans BX2.out))
    refine ready_f 8 (o := { dst := none, op := Op.store 39 (Operand.tmp 7) (Operand.tmp 81), type := 0, pos := "law.go:45", after := #[{ on := 0, ground := Ground.data }, { on := 5, ground := Ground.chain }, { on := 0, ground := Ground.phase }, { on := 1, ground := Ground.textOnly Departure.lateStores }, { on := 2, ground := Ground.textOnly Departure.lateStores }, { on := 3, ground := Ground.textOnly Departure.lateStores }, { on := 4, ground := Ground.textOnly Departure.lateStoresUnsure }, { on := 5, ground := Ground.textOnly Departure.lateStoresUnsure }, { on := 6, ground := Ground.textOnly Departure.lateStores }, { on := 7, ground := Ground.textOnly Departure.lateStores }], guard := none }) (by kernel_rfl) rfl (fun K hK => ?_)
    rw [if_pos (by rfl)]
    refine wp_store_row 39 _ _ rfl g7 RS rfl rfl 39 _ G74 SZS.out CSX.out ONS.out ?_
    refine hK.out _ _ (fun h => absurd (by decide) h) ?_
    clear hK K
    refine take_p 9 8 (.bool true) rfl rfl (by kernel_rfl) (by kernel_rfl) (by kernel_rfl) (fun _ _ _ h => h) rfl (fun w => by go_simp) ?_
    try simp only [List.setIfInBounds_toArray, List.set_cons_zero, List.set_cons_succ]
    refine done_f (by kernel_rfl) ?_ _
    have D5P := hide1 ((D3.below hb4).row (b := g7) (.inl (.inr rfl)) RS)
    have G75 := hide1 (setRow_heap w4 g7 RR RS 39 (0, 0) G74)
    have BX5 := hide1 ((setRow_other w4 g7 gr RS (by have := NEQ.out; omega)).trans BX4.out)
    have BB5 : Hid (Below B w (w4.setRow g7 RS)) := ((BB2.out.drew.trans hb3).trans (hb4.mono D3.size)).trans D5P.out.2
    have D5 : Hid (Dw B s n v3 m3 u3 xs xs LL LLv hv lv' (fun b => (b = gr ∨ b = ga) ∨ b = g7) (w4.setRow g7 RS)) := D5P.out.1.mono fun b hb => .inl hb
    have OKY : Hid (xs.Ok (N + 16)) := by unfold Hid; rw [HXS.out]; exact (HX.out.send body).mono (by omega)
    have SUMY : Hid (LL.length + xs.Q.length ≤ M + 1) := by
      unfold Hid
      rw [HXS.out]
      unfold Ls.send
      split
      · have := HSUM.out; simp; omega
      · have := HSUM.out; omega
    clear D5P D3 hb3 hb4 hk3 hLk hEr G93 K13 G74 hS
    generalize w4.setRow g7 RS = W5 at D5 G75 BX5 BB5 ⊢
    go_upto_region 19 with (fail)
    have SZX : Hid (Option.map (fun x => x.size) (Tryz.prog.info? 39) = some RS.size) := by rw [HRX.out]; exact sz10 rfl
    have ONX : Hid (RS.all (·.oneCell') = true) := by rw [HRX.out]; exact rcs_one _ D5.out.rf
    have CX : Hid (RR.size = RS.size) := by rw [S10.out, HRX.out]; rfl
    have DYP := hide1 (D5.out.row (b := gr) (.inl (.inl rfl)) RS)
    have BYR := hide1 (setRow_heap W5 gr RR RS 39 (0, 0) BX5.out)
    go_upto_region 20 with (first | (refine wpList_load_row rfl 39 (.tmp 7) rfl g7 rfl 39 RS (0, 0) _ G75.out Tryz.underlying39 rfl SZX.out ?_) | (refine wpList_store_row rfl 39 (.tmp 119) (.tmp 118) rfl gr RS rfl rfl 39 _ BX5.out SZX.out CX.out ONX.out ?_) | fail)
    generalize W5.setRow gr RS = WY at DYP BYR ⊢
    have DY := hide1 DYP.out.1
    have BBY : Hid (Below B w WY) := BB5.out.trans DYP.out.2
    clear DYP
    have H0 := hide1 OKY.out.own0
    have HQ64 := hide1 OKY.out.Q64
    have HA16 := hide1 OKY.out.A16
    have kOwn : Hid (∀ X, Below WY.heap.size WY X → Calls Tryz.prog 14 #[.pointer (some ⟨s, 0, none⟩)] X fun e w' => e = .returned (.int .u32 (xs.own : Int)) ∧ Below X.heap.size X w') := fun X hX => (lown_any (DY.out.below hX).lk H0.out).mono (by rintro e w' ⟨rfl, rfl⟩; exact ⟨rfl, Below.refl _ _⟩)
    have kPeer : Hid (∀ X, Below WY.heap.size WY X → Calls Tryz.prog 15 #[.pointer (some ⟨s, 0, none⟩)] X fun e w' => e = .returned (.int .u32 (xs.peer : Int)) ∧ Below X.heap.size X w') := fun X hX => (lpeer_any (DY.out.below hX).lk H0.out).mono (by rintro e w' ⟨rfl, rfl⟩; exact ⟨rfl, Below.refl _ _⟩)
    have kReady : Hid (∀ X, Below WY.heap.size WY X → Calls Tryz.prog 16 #[.pointer (some ⟨s, 0, none⟩)] X fun e w' => e = .returned (.bool xs.sure) ∧ Below X.heap.size X w') := fun X hX => (lready_any (DY.out.below hX).lk H0.out).mono (by rintro e w' ⟨rfl, rfl⟩; exact ⟨rfl, Below.refl _ _⟩)
    have kRoom : Hid (∀ X, Below WY.heap.size WY X → Calls Tryz.prog 17 #[.pointer (some ⟨s, 0, none⟩)] X fun e w' => e = .returned (.int .i64 (xs.room : Int)) ∧ Below X.heap.size X w') := fun X hX => (lroom_any (DY.out.below hX).lk H0.out HQ64.out).mono (by rintro e w' ⟨rfl, rfl⟩; exact ⟨rfl, Below.refl _ _⟩)
    have kWait : Hid (∀ X, Below WY.heap.size WY X → Calls Tryz.prog 18 #[.pointer (some ⟨s, 0, none⟩)] X fun e w' => e = .returned (.int .i64 (xs.waiting : Int)) ∧ Below X.heap.size X w') := fun X hX => (lwait_any (DY.out.below hX).lk H0.out HQ64.out HA16.out).mono (by rintro e w' ⟨rfl, rfl⟩; exact ⟨rfl, (Below.refl _ _).drew⟩)
    have rRoom : Hid (∀ X, Below WY.heap.size WY X → Calls Tryz.prog 32 #[.agg RS] X fun e w' => e = .returned (.int .i64 (xs.room : Int)) ∧ Below X.heap.size X w') := fun X hX => by
      obtain ⟨la, lc, hl, _⟩ := DY.out.rf.ql
      have k := rroom_any xs LLv hv la lc X HQ64.out
      rw [← hl] at k
      unfold rv at k
      rw [← HRX.out] at k
      exact k
    have rWait : Hid (∀ X, Below WY.heap.size WY X → Calls Tryz.prog 33 #[.agg RS] X fun e w' => e = .returned (.int .i64 (xs.waiting : Int)) ∧ Below X.heap.size X w') := fun X hX => by
      have k := rwaiting_any xs LL LLv hv lv' X (DY.out.below hX).rf HQ64.out
      unfold rv at k
      rw [← HRX.out] at k
      exact k
    have CLY : Hid (∀ X, Below WY.heap.size WY X → X.cell? ⟨gr, 0, none⟩ = some (.int .u32 (xs.own : Int)) ∧ X.cell? ⟨gr, 1, none⟩ = some (.int .u32 (xs.peer : Int)) ∧ X.cell? ⟨gr, 2, none⟩ = some (.bool xs.sure) ∧ X.heap[gr]? = some (.cells RS 39 (0, 0))) := fun X hX => by
      have e1 := (hX.block gr (lt_heap BYR.out)).trans BYR.out
      have e2 := e1
      rw [HRX.out] at e2
      obtain ⟨⟨c0, c1, c2, _, _⟩, _⟩ := box10 e2
      exact ⟨c0, c1, c2, e1⟩
    have FINQ : Hid (∀ w', Below WY.heap.size WY w' → Q w') := fun w' hw => HQ.out w' xs (OKY.out.mono (by omega)) ⟨_, _, _, LL, LLv, hv, lv', ⟨((DY.out.below hw).lk).mono (by omega), (DY.out.below hw).rf, (DY.out.below hw).et, (DY.out.below hw).pos, (DY.out.below hw).rl, fun b hb => (DY.out.below hw).bs b (.inl (.inl hb))⟩, by rw [← HRX.out]; exact (hw.block gr (lt_heap BYR.out)).trans BYR.out, SUMY.out⟩ (BBY.out.trans (hw.mono DY.out.size))
    clear SZ ONE CX ONX
    generalize (xs.room : Int) = rm at kRoom rRoom
    generalize (xs.waiting : Int) = wt at kWait rWait
    refine region_f (F := []) (S := fun X => Below WY.heap.size WY X) (by kernel_rfl) (Below.refl _ _).drew (fun hS => ?_)
    refine take_p 0 120 (.bool true) rfl rfl (by kernel_rfl) (by kernel_rfl) (by kernel_rfl) (fun _ _ _ h => h) rfl (fun w => by go_simp) ?_
    try simp only [List.setIfInBounds_toArray, List.set_cons_zero, List.set_cons_succ]
    refine take_p 1 121 (.bool true) rfl rfl (by kernel_rfl) (by kernel_rfl) (by kernel_rfl) (fun _ _ _ h => h) rfl (fun w => by go_simp) ?_
    try simp only [List.setIfInBounds_toArray, List.set_cons_zero, List.set_cons_succ]
    refine take_p 2 122 (.pointer (some ⟨s, 0, none⟩)) rfl rfl (by kernel_rfl) (by kernel_rfl) (by kernel_rfl) (fun _ _ _ h => h) rfl (fun w => by go_simp) ?_
    try simp only [List.setIfInBounds_toArray, List.set_cons_zero, List.set_cons_succ]
    refine take_p 4 124 (.pointer (some ⟨gr, 0, none⟩)) rfl rfl (by kernel_rfl) (by kernel_rfl) (by kernel_rfl) (fun _ _ _ h => h) rfl (fun w => by go_simp) ?_
    try simp only [List.setIfInBounds_toArray, List.set_cons_zero, List.set_cons_succ]
    refine take_p 5 125 (.pointer (some ⟨gr, 0, none⟩)) rfl rfl (by kernel_rfl) (by kernel_rfl) (by kernel_rfl) (fun _ _ _ h => h) rfl (fun w => by go_simp) ?_
    try simp only [List.setIfInBounds_toArray, List.set_cons_zero, List.set_cons_succ]
    refine take_p 6 126 (.pointer (some ⟨gr, 0, none⟩)) rfl rfl (by kernel_rfl) (by kernel_rfl) (by kernel_rfl) (fun _ _ _ h => h) rfl (fun w => by go_simp) ?_
    try simp only [List.setIfInBounds_toArray, List.set_cons_zero, List.set_cons_succ]
    refine take_f 7 127 (.int .u32 (xs.own : Int)) [8, 9, 10, 11, 12, 13, 14, 15, 16, 17, 18, 19, 20, 21, 22, 23, 24, 25, 26, 27, 28, 29, 30, 31, 32, 33, 34, 35, 36, 37, 38, 39, 40, 41, 42, 43, 44, 45, 46] rfl rfl (by kernel_rfl) (by kernel_rfl) (by kernel_rfl) (by kernel_rfl) (by kernel_rfl) (by kernel_rfl) (fun _ _ _ h => h) rfl (fun w hSw => by obtain ⟨h0, h1, h2, h3⟩ := CLY.out _ hSw; go_simp) hS ?_
    try simp only [List.setIfInBounds_toArray, List.set_cons_zero, List.set_cons_succ]
    refine ready_f 3 (o := { dst := some 123, op := Op.call { callee := Callee.value (Operand.func 14), args := #[Operand.tmp 122], argTypes := #[24] }, type := 22, pos := "law.go:62", after := #[{ on := 2, ground := Ground.data }, { on := 1, ground := Ground.chain }, { on := 1, ground := Ground.guard }], guard := some (1, true) }) (by kernel_rfl) rfl (fun K hK => ?_)
    go_simp
    refine (kOwn.out _ hS).mono ?_
    rintro e wn ⟨rfl, hbn⟩
    replace hS := hS.trans (hbn.mono hS.size)
    clear hbn
    refine hK.out _ _ (fun _ _ => hS) ?_
    clear hK K
    try simp only [Act.put, List.setIfInBounds_toArray, List.set_cons_zero, List.set_cons_succ]
    refine take_p 8 128 (.bool true) rfl rfl (by kernel_rfl) (by kernel_rfl) (by kernel_rfl) (fun _ _ _ h => h) rfl (fun w => by go_simp) ?_
    try simp only [List.setIfInBounds_toArray, List.set_cons_zero, List.set_cons_succ]
    refine take_p 9 129 (.bool true) rfl rfl (by kernel_rfl) (by kernel_rfl) (by kernel_rfl) (fun _ _ _ h => h) rfl (fun w => by go_simp) ?_
    try simp only [List.setIfInBounds_toArray, List.set_cons_zero, List.set_cons_succ]
    refine take_p 10 130 (.bool true) rfl rfl (by kernel_rfl) (by kernel_rfl) (by kernel_rfl) (fun _ _ _ h => h) rfl (fun w => by go_simp) ?_
    try simp only [List.setIfInBounds_toArray, List.set_cons_zero, List.set_cons_succ]
    refine take_p 11 131 (.pointer (some ⟨s, 0, none⟩)) rfl rfl (by kernel_rfl) (by kernel_rfl) (by kernel_rfl) (fun _ _ _ h => h) rfl (fun w => by go_simp) ?_
    try simp only [List.setIfInBounds_toArray, List.set_cons_zero, List.set_cons_succ]
    refine take_p 13 133 (.pointer (some ⟨gr, 0, none⟩)) rfl rfl (by kernel_rfl) (by kernel_rfl) (by kernel_rfl) (fun _ _ _ h => h) rfl (fun w => by go_simp) ?_
    try simp only [List.setIfInBounds_toArray, List.set_cons_zero, List.set_cons_succ]
    refine take_p 14 134 (.pointer (some ⟨gr, 0, none⟩)) rfl rfl (by kernel_rfl) (by kernel_rfl) (by kernel_rfl) (fun _ _ _ h => h) rfl (fun w => by go_simp) ?_
    try simp only [List.setIfInBounds_toArray, List.set_cons_zero, List.set_cons_succ]
    refine take_p 15 135 (.pointer (some ⟨gr, 1, none⟩)) rfl rfl (by kernel_rfl) (by kernel_rfl) (by kernel_rfl) (fun _ _ _ h => h) rfl (fun w => by go_simp) ?_
    try simp only [List.setIfInBounds_toArray, List.set_cons_zero, List.set_cons_succ]
    refine take_f 16 136 (.int .u32 (xs.peer : Int)) [17, 18, 19, 20, 21, 22, 23, 24, 25, 26, 27, 28, 29, 30, 31, 32, 33, 34, 35, 36, 37, 38, 39, 40, 41, 42, 43, 44, 45, 46] rfl rfl (by kernel_rfl) (by kernel_rfl) (by kernel_rfl) (by kernel_rfl) (by kernel_rfl) (by kernel_rfl) (fun _ _ _ h => h) rfl (fun w hSw => by obtain ⟨h0, h1, h2, h3⟩ := CLY.out _ hSw; go_simp) hS ?_
    try simp only [List.setIfInBounds_toArray, List.set_cons_zero, List.set_cons_succ]
    refine ready_f 12 (o := { dst := some 132, op := Op.call { callee := Callee.value (Operand.func 15), args := #[Operand.tmp 131], argTypes := #[24] }, type := 22, pos := "law.go:62", after := #[{ on := 11, ground := Ground.data }, { on := 10, ground := Ground.chain }, { on := 10, ground := Ground.guard }], guard := some (10, true) }) (by kernel_rfl) rfl (fun K hK => ?_)
    go_simp
    refine (kPeer.out _ hS).mono ?_
    rintro e wn ⟨rfl, hbn⟩
    replace hS := hS.trans (hbn.mono hS.size)
    clear hbn
    refine hK.out _ _ (fun _ _ => hS) ?_
    clear hK K
    try simp only [Act.put, List.setIfInBounds_toArray, List.set_cons_zero, List.set_cons_succ]
    refine take_p 17 137 (.bool true) rfl rfl (by kernel_rfl) (by kernel_rfl) (by kernel_rfl) (fun _ _ _ h => h) rfl (fun w => by go_simp) ?_
    try simp only [List.setIfInBounds_toArray, List.set_cons_zero, List.set_cons_succ]
    refine take_p 18 138 (.bool true) rfl rfl (by kernel_rfl) (by kernel_rfl) (by kernel_rfl) (fun _ _ _ h => h) rfl (fun w => by go_simp) ?_
    try simp only [List.setIfInBounds_toArray, List.set_cons_zero, List.set_cons_succ]
    refine take_p 19 139 (.bool true) rfl rfl (by kernel_rfl) (by kernel_rfl) (by kernel_rfl) (fun _ _ _ h => h) rfl (fun w => by go_simp) ?_
    try simp only [List.setIfInBounds_toArray, List.set_cons_zero, List.set_cons_succ]
    refine take_p 20 140 (.pointer (some ⟨s, 0, none⟩)) rfl rfl (by kernel_rfl) (by kernel_rfl) (by kernel_rfl) (fun _ _ _ h => h) rfl (fun w => by go_simp) ?_
    try simp only [List.setIfInBounds_toArray, List.set_cons_zero, List.set_cons_succ]
    refine take_p 22 142 (.pointer (some ⟨gr, 0, none⟩)) rfl rfl (by kernel_rfl) (by kernel_rfl) (by kernel_rfl) (fun _ _ _ h => h) rfl (fun w => by go_simp) ?_
    try simp only [List.setIfInBounds_toArray, List.set_cons_zero, List.set_cons_succ]
    refine take_p 23 143 (.pointer (some ⟨gr, 0, none⟩)) rfl rfl (by kernel_rfl) (by kernel_rfl) (by kernel_rfl) (fun _ _ _ h => h) rfl (fun w => by go_simp) ?_
    try simp only [List.setIfInBounds_toArray, List.set_cons_zero, List.set_cons_succ]
    refine take_p 24 144 (.pointer (some ⟨gr, 2, none⟩)) rfl rfl (by kernel_rfl) (by kernel_rfl) (by kernel_rfl) (fun _ _ _ h => h) rfl (fun w => by go_simp) ?_
    try simp only [List.setIfInBounds_toArray, List.set_cons_zero, List.set_cons_succ]
    refine take_f 25 145 (.bool xs.sure) [26, 27, 28, 29, 30, 31, 32, 33, 34, 35, 36, 37, 38, 39, 40, 41, 42, 43, 44, 45, 46] rfl rfl (by kernel_rfl) (by kernel_rfl) (by kernel_rfl) (by kernel_rfl) (by kernel_rfl) (by kernel_rfl) (fun _ _ _ h => h) rfl (fun w hSw => by obtain ⟨h0, h1, h2, h3⟩ := CLY.out _ hSw; go_simp) hS ?_
    try simp only [List.setIfInBounds_toArray, List.set_cons_zero, List.set_cons_succ]
    refine ready_f 21 (o := { dst := some 141, op := Op.call { callee := Callee.value (Operand.func 16), args := #[Operand.tmp 140], argTypes := #[24] }, type := 4, pos := "law.go:62", after := #[{ on := 20, ground := Ground.data }, { on := 19, ground := Ground.chain }, { on := 19, ground := Ground.guard }], guard := some (19, true) }) (by kernel_rfl) rfl (fun K hK => ?_)
    go_simp
    refine (kReady.out _ hS).mono ?_
    rintro e wn ⟨rfl, hbn⟩
    replace hS := hS.trans (hbn.mono hS.size)
    clear hbn
    refine hK.out _ _ (fun _ _ => hS) ?_
    clear hK K
    try simp only [Act.put, List.setIfInBounds_toArray, List.set_cons_zero, List.set_cons_succ]
    refine take_p 26 146 (.bool true) rfl rfl (by kernel_rfl) (by kernel_rfl) (by kernel_rfl) (fun _ _ _ h => h) rfl (fun w => by go_simp) ?_
    try simp only [List.setIfInBounds_toArray, List.set_cons_zero, List.set_cons_succ]
    refine take_p 27 147 (.bool true) rfl rfl (by kernel_rfl) (by kernel_rfl) (by kernel_rfl) (fun _ _ _ h => h) rfl (fun w => by go_simp) ?_
    try simp only [List.setIfInBounds_toArray, List.set_cons_zero, List.set_cons_succ]
    refine take_p 28 148 (.bool true) rfl rfl (by kernel_rfl) (by kernel_rfl) (by kernel_rfl) (fun _ _ _ h => h) rfl (fun w => by go_simp) ?_
    try simp only [List.setIfInBounds_toArray, List.set_cons_zero, List.set_cons_succ]
    refine take_p 29 149 (.pointer (some ⟨s, 0, none⟩)) rfl rfl (by kernel_rfl) (by kernel_rfl) (by kernel_rfl) (fun _ _ _ h => h) rfl (fun w => by go_simp) ?_
    try simp only [List.setIfInBounds_toArray, List.set_cons_zero, List.set_cons_succ]
    refine take_p 31 151 (.pointer (some ⟨gr, 0, none⟩)) rfl rfl (by kernel_rfl) (by kernel_rfl) (by kernel_rfl) (fun _ _ _ h => h) rfl (fun w => by go_simp) ?_
    try simp only [List.setIfInBounds_toArray, List.set_cons_zero, List.set_cons_succ]
    refine take_p 32 152 (.pointer (some ⟨gr, 0, none⟩)) rfl rfl (by kernel_rfl) (by kernel_rfl) (by kernel_rfl) (fun _ _ _ h => h) rfl (fun w => by go_simp) ?_
    try simp only [List.setIfInBounds_toArray, List.set_cons_zero, List.set_cons_succ]
    refine take_f 33 153 (.agg RS) [34, 35, 36, 37, 38, 39, 40, 41, 42, 43, 44, 45, 46] rfl rfl (by kernel_rfl) (by kernel_rfl) (by kernel_rfl) (by kernel_rfl) (by kernel_rfl) (by kernel_rfl) (fun _ _ _ h => h) rfl (fun w hSw => by exact exec_load_box 39 (.tmp 152) rfl _ rfl 39 _ _ ((CLY.out _ hSw).2.2.2) Tryz.underlying39 rfl SZX.out) hS ?_
    try simp only [List.setIfInBounds_toArray, List.set_cons_zero, List.set_cons_succ]
    refine ready_f 30 (o := { dst := some 150, op := Op.call { callee := Callee.value (Operand.func 17), args := #[Operand.tmp 149], argTypes := #[24] }, type := 3, pos := "law.go:62", after := #[{ on := 29, ground := Ground.data }, { on := 28, ground := Ground.chain }, { on := 28, ground := Ground.guard }], guard := some (28, true) }) (by kernel_rfl) rfl (fun K hK => ?_)
    go_simp
    refine (kRoom.out _ hS).mono ?_
    rintro e wn ⟨rfl, hbn⟩
    replace hS := hS.trans (hbn.mono hS.size)
    clear hbn
    refine hK.out _ _ (fun _ _ => hS) ?_
    clear hK K
    try simp only [Act.put, List.setIfInBounds_toArray, List.set_cons_zero, List.set_cons_succ]
    refine ready_f 34 (o := { dst := some 154, op := Op.call { callee := Callee.value (Operand.func 32), args := #[Operand.tmp 153], argTypes := #[46] }, type := 3, pos := "law.go:62", after := #[{ on := 33, ground := Ground.data }, { on := 30, ground := Ground.chain }, { on := 28, ground := Ground.guard }], guard := some (28, true) }) (by kernel_rfl) rfl (fun K hK => ?_)
    go_simp
    refine (rRoom.out _ hS).mono ?_
    rintro e wn ⟨rfl, hbn⟩
    replace hS := hS.trans (hbn.mono hS.size)
    clear hbn
    refine hK.out _ _ (fun _ _ => hS) ?_
    clear hK K
    try simp only [Act.put, List.setIfInBounds_toArray, List.set_cons_zero, List.set_cons_succ]
    refine take_p 35 155 (.bool true) rfl rfl (by kernel_rfl) (by kernel_rfl) (by kernel_rfl) (fun _ _ _ h => h) rfl (fun w => by go_simp) ?_
    try simp only [List.setIfInBounds_toArray, List.set_cons_zero, List.set_cons_succ]
    refine take_p 36 156 (.bool true) rfl rfl (by kernel_rfl) (by kernel_rfl) (by kernel_rfl) (fun _ _ _ h => h) rfl (fun w => by go_simp) ?_
    try simp only [List.setIfInBounds_toArray, List.set_cons_zero, List.set_cons_succ]
    refine take_p 37 157 (.bool true) rfl rfl (by kernel_rfl) (by kernel_rfl) (by kernel_rfl) (fun _ _ _ h => h) rfl (fun w => by go_simp) ?_
    try simp only [List.setIfInBounds_toArray, List.set_cons_zero, List.set_cons_succ]
    refine take_p 38 158 (.pointer (some ⟨s, 0, none⟩)) rfl rfl (by kernel_rfl) (by kernel_rfl) (by kernel_rfl) (fun _ _ _ h => h) rfl (fun w => by go_simp) ?_
    try simp only [List.setIfInBounds_toArray, List.set_cons_zero, List.set_cons_succ]
    refine take_p 40 160 (.pointer (some ⟨gr, 0, none⟩)) rfl rfl (by kernel_rfl) (by kernel_rfl) (by kernel_rfl) (fun _ _ _ h => h) rfl (fun w => by go_simp) ?_
    try simp only [List.setIfInBounds_toArray, List.set_cons_zero, List.set_cons_succ]
    refine take_p 41 161 (.pointer (some ⟨gr, 0, none⟩)) rfl rfl (by kernel_rfl) (by kernel_rfl) (by kernel_rfl) (fun _ _ _ h => h) rfl (fun w => by go_simp) ?_
    try simp only [List.setIfInBounds_toArray, List.set_cons_zero, List.set_cons_succ]
    refine take_f 42 162 (.agg RS) [43, 44, 45, 46] rfl rfl (by kernel_rfl) (by kernel_rfl) (by kernel_rfl) (by kernel_rfl) (by kernel_rfl) (by kernel_rfl) (fun _ _ _ h => h) rfl (fun w hSw => by exact exec_load_box 39 (.tmp 161) rfl _ rfl 39 _ _ ((CLY.out _ hSw).2.2.2) Tryz.underlying39 rfl SZX.out) hS ?_
    try simp only [List.setIfInBounds_toArray, List.set_cons_zero, List.set_cons_succ]
    refine ready_f 39 (o := { dst := some 159, op := Op.call { callee := Callee.value (Operand.func 18), args := #[Operand.tmp 158], argTypes := #[24] }, type := 3, pos := "law.go:62", after := #[{ on := 38, ground := Ground.data }, { on := 37, ground := Ground.chain }, { on := 37, ground := Ground.guard }], guard := some (37, true) }) (by kernel_rfl) rfl (fun K hK => ?_)
    go_simp
    refine (kWait.out _ hS).mono ?_
    rintro e wn ⟨rfl, hbn⟩
    replace hS := hS.trans (hbn.mono hS.size)
    clear hbn
    refine hK.out _ _ (fun _ _ => hS) ?_
    clear hK K
    try simp only [Act.put, List.setIfInBounds_toArray, List.set_cons_zero, List.set_cons_succ]
    refine ready_f 43 (o := { dst := some 163, op := Op.call { callee := Callee.value (Operand.func 33), args := #[Operand.tmp 162], argTypes := #[46] }, type := 3, pos := "law.go:62", after := #[{ on := 42, ground := Ground.data }, { on := 39, ground := Ground.chain }, { on := 37, ground := Ground.guard }], guard := some (37, true) }) (by kernel_rfl) rfl (fun K hK => ?_)
    go_simp
    refine (rWait.out _ hS).mono ?_
    rintro e wn ⟨rfl, hbn⟩
    replace hS := hS.trans (hbn.mono hS.size)
    clear hbn
    refine hK.out _ _ (fun _ _ => hS) ?_
    clear hK K
    try simp only [Act.put, List.setIfInBounds_toArray, List.set_cons_zero, List.set_cons_succ]
    refine take_p 44 164 (.bool true) rfl rfl (by kernel_rfl) (by kernel_rfl) (by kernel_rfl) (fun _ _ _ h => h) rfl (fun w => by go_simp) ?_
    try simp only [List.setIfInBounds_toArray, List.set_cons_zero, List.set_cons_succ]
    refine take_p 45 165 (.bool true) rfl rfl (by kernel_rfl) (by kernel_rfl) (by kernel_rfl) (fun _ _ _ h => h) rfl (fun w => by go_simp) ?_
    try simp only [List.setIfInBounds_toArray, List.set_cons_zero, List.set_cons_succ]
    refine take_p 46 6 (.bool true) rfl rfl (by kernel_rfl) (by kernel_rfl) (by kernel_rfl) (fun _ _ _ h => h) rfl (fun w => by go_simp) ?_
    try simp only [List.setIfInBounds_toArray, List.set_cons_zero, List.set_cons_succ]
    refine done_f (by kernel_rfl) ?_ _
    have FF := hide1 (FINQ.out _ hS)
    clear hS
    go_wp2
    go_ret
    exact ⟨rfl, FF.out⟩

end Go.Proofs.YtcadlcpccemkbaaGreatDoor
