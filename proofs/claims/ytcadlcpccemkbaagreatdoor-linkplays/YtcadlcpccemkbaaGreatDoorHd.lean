/- does: Tick. -/
import Derived.Test.YtcadlcpccemkbaaGreatDoorMFzHa
import Derived.Test.YtcadlcpccemkbaaGreatDoorHc
namespace Go.Proofs.YtcadlcpccemkbaaGreatDoor
open Go.RowKit
set_option maxRecDepth 100000
attribute [local go_sem] not_any

set_option maxHeartbeats 8000000 in
theorem does_2 {N B s gr n M : Nat} {x : Ls} {w : World} (h : Dv B s gr n x M w) (hx : x.Ok N) (hN : N + 1000 < 4294967296) (hn : n < 1000000) (hM : M ≤ 900) (kd : Int) (body : ByteArray) (hb : body.size ≤ 1000) (fk : Int) (fo fp fq fa : Nat) (fb : ByteArray) (hk : kd = 2) :
    Calls Tryz.prog 9 #[.pointer (some ⟨s, 0, none⟩), .pointer (some ⟨gr, 0, none⟩), .agg #[.int .i64 kd, .string body, .int .i64 fk, .int .u32 (fo : Int), .int .u32 (fp : Int), .int .u32 (fq : Int), .int .u32 (fa : Int), .string fb]] w fun e w' => e = .returned (.bool true) ∧ ∃ y, y.Ok (N + 16) ∧ Dv B s gr (n + 1) y (M + 1) w' ∧ Below B w w' := by
  have HKD := hide1 hk
  clear hk
  obtain ⟨v, m, u, LL, LLv, hv, lv, hD, hbox, hsum⟩ := h
  obtain ⟨RR, hRR⟩ : ∃ R, R = rcs x LLv hv lv := ⟨_, rfl⟩
  have SZ : Hid (Option.map (fun x => x.size) (Tryz.prog.info? 39) = some RR.size) := by rw [hRR]; exact sz10 rfl
  have ONE : Hid (RR.all (·.oneCell') = true) := by rw [hRR]; exact rcs_one x hD.rf
  have S10 : Hid (RR.size = 10) := by rw [hRR]; rfl
  rw [← hRR] at hbox
  have HRR := hide1 hRR
  have HX := hide1 hx
  have HN := hide1 hN
  have HM := hide1 hM
  have HNN := hide1 hn
  have HB := hide1 hb
  have HSUM := hide1 hsum
  have D0 := hide1 hD
  have BX0 := hide1 hbox
  obtain ⟨Q, hQ⟩ : ∃ Q : World → Prop, Q = fun w' => ∃ y, y.Ok (N + 16) ∧ Dv B s gr (n + 1) y (M + 1) w' ∧ Below B w w' := ⟨_, rfl⟩
  have HQ : Hid (∀ w' y, y.Ok (N + 16) → Dv B s gr (n + 1) y (M + 1) w' → Below B w w' → Q w') := fun w' y h1 h2 h3 => by rw [hQ]; exact ⟨y, h1, h2, h3⟩
  suffices hs : Calls Tryz.prog 9 #[.pointer (some ⟨s, 0, none⟩), .pointer (some ⟨gr, 0, none⟩), .agg #[.int .i64 kd, .string body, .int .i64 fk, .int .u32 (fo : Int), .int .u32 (fp : Int), .int .u32 (fq : Int), .int .u32 (fa : Int), .string fb]] w fun e w' => e = .returned (.bool true) ∧ Q w' by rw [hQ] at hs; exact hs
  clear hQ hD hbox hsum hRR hx hN hM hn hb
  go_enter Tryz.func9, Tryz.ntmps9
  go_upto_region 1 with (fail)
  generalize hW : World.alloc w _ = W0
  have DA := hide1 (hW ▸ D0.out.more (.cells #[.int .i64 kd, .string body, .int .i64 fk, .int .u32 (fo : Int), .int .u32 (fp : Int), .int .u32 (fq : Int), .int .u32 (fa : Int), .string fb] 44))
  have A0 : Hid (W0.heap[w.heap.size]? = some (.cells #[.int .i64 kd, .string body, .int .i64 fk, .int .u32 (fo : Int), .int .u32 (fp : Int), .int .u32 (fq : Int), .int .u32 (fa : Int), .string fb] 44 (0, 0))) := by unfold Hid; rw [← hW]; exact heap_alloc_new w _
  have b0 : Below w.heap.size w W0 := by rw [← hW]; exact below1 _
  have BXA := hide1 ((b0.block gr (D0.out.bs gr rfl).2.1).trans BX0.out)
  obtain ⟨ga, hga⟩ : ∃ ga, w.heap.size = ga := ⟨_, rfl⟩
  have BB0 : Hid (Below B w W0) := b0.mono D0.out.size
  rw [hga] at DA A0
  try rw [hga]
  clear hW b0 hga D0 BX0
  go_upto_region 2 with (first | (refine wpList_load_row rfl 39 (.tmp 21) rfl gr rfl 39 RR (0, 0) _ BXA.out Tryz.underlying39 rfl SZ.out ?_) | (refine wpList_store_row rfl 39 (.tmp 7) (.tmp 22) rfl W0.heap.size RR rfl rfl 39 _ (heap_alloc_new W0 _) SZ.out S10.out.symm ONE.out ?_) | fail)
  generalize hW : World.setRow (World.alloc W0 _) _ _ = W1
  have b1 : Below W0.heap.size W0 W1 := by rw [← hW]; exact below_setRow (below1 _) (Nat.le_refl _) _
  have D1 : Hid (Dw B s n v m u x x LL LLv hv lv (fun b => (b = gr ∨ b = ga) ∨ b = W0.heap.size) W1) := by
    unfold Hid
    rw [← hW]
    exact ((DA.out.more _).row (.inr rfl) _).1
  have G7 : Hid (W1.heap[W0.heap.size]? = some (.cells RR 39 (0, 0))) := by unfold Hid; rw [← hW]; exact setRow_heap _ _ _ _ _ _ (heap_alloc_new W0 _)
  have A1 := hide1 ((b1.block _ (lt_heap A0.out)).trans A0.out)
  have BX1 := hide1 ((b1.block _ (lt_heap BXA.out)).trans BXA.out)
  have BB1 : Hid (Below B w W1) := BB0.out.trans (b1.mono DA.out.size)
  have NEQ : Hid (gr < W0.heap.size) := (DA.out.bs gr (.inl rfl)).2.1
  obtain ⟨g7, hg7⟩ : ∃ g7, W0.heap.size = g7 := ⟨_, rfl⟩
  rw [hg7] at D1 G7 NEQ
  try rw [hg7]
  clear hW b1 hg7 DA A0 BXA BB0
  obtain ⟨⟨k0, k1, _⟩, kfr⟩ := act_cells A1.out

  have gk0 : ((kd : Int) == 0) = false := by simp [HKD.out]
  have gk1 : ((kd : Int) == 1) = false := by simp [HKD.out]
  have gk2 : ((kd : Int) == 2) = true := by simp [HKD.out]
  obtain ⟨y, hy⟩ : ∃ y, y = x.flush := ⟨_, rfl⟩
  have HY := hide1 hy
  obtain ⟨Fs, hFs⟩ : ∃ Fs, Fs = x.tickF := ⟨_, rfl⟩
  have FLEN : Hid (x.tickF.length ≤ 1000000) := tickF_len HX.out
  have kF : Hid (Calls Tryz.prog 29 #[.agg RR] W1 fun e w' => ∃ RS LL' L' l' ya yn yc, e = .returned (.tuple #[.agg RS, .slice ya yn yc]) ∧ RS = rcs y L' hv l' ∧ Rfp x LL LLv hv lv W1 y LL' L' hv l' w' ∧ LL'.length + y.Q.length = LL.length + x.Q.length ∧ Rdl w' (.slice ya yn yc) x.tickF ∧ ∀ b, (Value.slice ya yn yc).ownBlock = some b → W1.heap.size ≤ b) := by
    have k := rtick_any x LL LLv hv lv W1 D1.out.rf HX.out HN.out (by have := HSUM.out; have := HM.out; omega)
    unfold rv at k
    rw [← HRR.out] at k
    refine k.mono ?_
    rintro e w' ⟨L', l', r, rfl, h1, h2⟩
    obtain ⟨a, c, rfl⟩ := id h2.form
    rw [hy]
    refine ⟨_, _, L', l', a, _, c, rfl, rfl, h1, ?_, h2.rd, fun b e => (h2.lt e).1⟩
    show (LL ++ x.Q.take x.mvn).length + (x.Q.drop x.mvn).length = _
    rw [List.length_append, List.length_take, List.length_drop]
    omega
  have LF1 : Hid (∀ b, Lf s v m u b → b < W1.heap.size) := fun b hb => (D1.out.lk.flt hb).2
  clear hy hFs
  go_upto_region 17 with (fail)
  clear k0 k1 kfr
  go_wp2_with (first | (refine wpList_load_row rfl 39 (.tmp 107) rfl gr rfl 39 RR (0, 0) _ BX1.out Tryz.underlying39 rfl SZ.out ?_) | fail)
  refine kF.out.mono ?_
  rintro e w2 ⟨RS, LL', L', l', ya, yn, yc, rfl, hRS, hp, hsum, hrd, hrl⟩
  have HRX := hide1 hRS
  have SZS : Hid (Option.map (fun x => x.size) (Tryz.prog.info? 39) = some RS.size) := by rw [hRS]; exact sz10 rfl
  have CSX : Hid (RR.size = RS.size) := by rw [S10.out, hRS]; rfl
  have CZ : Hid ((#[.int .u32 0, .int .u32 0, .bool false, .int .i64 0, .slice none 0 0, .int .i64 0, .int .i64 0, .slice none 0 0, .slice none 0 0, .bool false] : Array Value).size = RS.size) := by rw [hRS]; rfl
  have ONS : Hid (RS.all (·.oneCell') = true) := by rw [hRS]; exact rcs_one y hp.1
  have RL2 := hide1 hrl
  have HSUM2 := hide1 hsum
  clear hRS hrl hsum
  go_upto_region 18 with (first | (refine wpList_store_row rfl 39 (.tmp 13) (.tmp 110) rfl w2.heap.size RS rfl rfl 39 _ (heap_alloc_new w2 _) SZS.out CZ.out ONS.out ?_) | fail)
  generalize hW : World.setRow (World.alloc w2 _) _ _ = W3
  have b23 : Below w2.heap.size w2 W3 := by rw [← hW]; exact below_setRow (below1 _) (Nat.le_refl _) _
  have D2 : Hid (Dw B s n v m u x y LL' L' hv l' (fun b => ((b = gr ∨ b = ga) ∨ b = g7) ∨ b = w2.heap.size) W3) := by
    unfold Hid
    rw [← hW]
    exact (((D1.out.doc hp).more _).row (.inr rfl) _).1
  have G9 : Hid (W3.heap[w2.heap.size]? = some (.cells RS 39 (0, 0))) := by unfold Hid; rw [← hW]; exact setRow_heap _ _ _ _ _ _ (heap_alloc_new w2 _)
  have b13 := hp.2.1.trans (b23.mono hp.2.1.size)
  have RD2 := hide1 (hrd.below b23 (Nat.le_refl _))
  have G72 := hide1 ((b13.block g7 (lt_heap G7.out)).trans G7.out)
  have BX2 := hide1 ((b13.block gr (lt_heap BX1.out)).trans BX1.out)
  have BB2 : Hid (Below B w W3) := BB1.out.trans (b13.mono D1.out.size)
  obtain ⟨g9, hg9⟩ : ∃ g9, w2.heap.size = g9 := ⟨_, rfl⟩
  rw [hg9] at D2 G9
  try rw [hg9]
  clear hW b23 b13 hp hrd hg9 kF
  refine region_f (F := [5]) (S := fun X => X.heap[g9]? = some (.cells RS 39 (0, 0))) (by kernel_rfl) G9.out (fun hS => ?_)
  refine take_f 0 112 (.agg RS) [5, 6] rfl rfl (by kernel_rfl) (by kernel_rfl) (by kernel_rfl) (by kernel_rfl) (by kernel_rfl) (by kernel_rfl) (fun _ _ _ h => h) rfl (fun w hSw => by exact exec_load_box 39 (.tmp 13) rfl _ rfl 39 _ _ (hSw) Tryz.underlying39 rfl SZS.out) hS ?_
  try simp only [List.setIfInBounds_toArray, List.set_cons_zero, List.set_cons_succ]
  refine take_p 1 113 (.pointer (some ⟨s, 0, none⟩)) rfl rfl (by kernel_rfl) (by kernel_rfl) (by kernel_rfl) (fun _ _ _ h => h) rfl (fun w => by go_simp) ?_
  try simp only [List.setIfInBounds_toArray, List.set_cons_zero, List.set_cons_succ]
  refine take_p 3 115 (.slice ya yn yc) rfl rfl (by kernel_rfl) (by kernel_rfl) (by kernel_rfl) (fun _ _ _ h => h) rfl (fun w => by go_simp) ?_
  try simp only [List.setIfInBounds_toArray, List.set_cons_zero, List.set_cons_succ]
  have D2d := hide1 (D2.out.below (Below.refl _ _).drew)
  have RDd := hide1 (RD2.out.below (C := W3.heap.size) (Below.refl _ _).drew (Nat.le_refl _))
  refine ready_f 2 (o := { dst := some 114, op := Op.call { callee := Callee.value (Operand.func 13), args := #[Operand.tmp 113], argTypes := #[24] }, type := 32, pos := "law.go:51", after := #[{ on := 1, ground := Ground.data }], guard := none }) (by kernel_rfl) rfl (fun K hK => ?_)
  go_simp
  refine (ltick_any D2d.out.lk D2d.out.size HX.out HN.out).mono ?_
  rintro e w4 ⟨r, rfl, hFl⟩
  obtain ⟨hLk, hLst⟩ := hFl.lkp
  obtain ⟨_, _, _, _, hKp, _⟩ := id hLk
  have RD4 := RDd.out.kp2 hKp fun hn b e hL => by have h1 := RL2.out b e; have h2 := (LF1.out b hL); omega
  obtain ⟨v3, m3, u3, D3, hb3, hk3⟩ := D2d.out.prog hLk
  obtain ⟨ra, rc, rfl⟩ := hLst.form
  have RP4 := hLst.rd
  have G93 : w4.heap[g9]? = some (.cells RS 39 (0, 0)) := (hk3 g9 (.inr rfl)).trans G9.out
  generalize hrn : List.length _ = rn at RP4 hLst ⊢
  clear hFl hLst hrn
  refine hK.out _ _ (fun _ _ => G93) ?_
  clear hK K
  try simp only [Act.put, List.setIfInBounds_toArray, List.set_cons_zero, List.set_cons_succ]
  refine ready_f 4 (o := { dst := some 116, op := Op.call { callee := Callee.value (Operand.func 28), args := #[Operand.tmp 114, Operand.tmp 115], argTypes := #[32, 32] }, type := 4, pos := "law.go:51", after := #[{ on := 2, ground := Ground.data }, { on := 3, ground := Ground.data }, { on := 2, ground := Ground.chain }], guard := none }) (by kernel_rfl) rfl (fun K hK => ?_)
  go_simp
  refine (texts_any RP4 RD4 FLEN.out).mono ?_
  rintro e w5 ⟨rfl, hb5⟩
  refine hK.out _ _ (fun _ _ => (hb5.block g9 (lt_heap G93)).trans G93) ?_
  clear hK K
  try simp only [Act.put, List.setIfInBounds_toArray, List.set_cons_zero, List.set_cons_succ]
  have G75 := (hb5.block g7 (D3.bs g7 (.inl (.inr rfl))).2.1).trans ((hk3 g7 (.inl (.inr rfl))).trans G72.out)
  have BX5 := hide1 ((hb5.block gr (D3.bs gr (.inl (.inl (.inl rfl)))).2.1).trans ((hk3 gr (.inl (.inl (.inl rfl)))).trans BX2.out))
  refine ready_f 5 (o := { dst := none, op := Op.store 39 (Operand.tmp 7) (Operand.tmp 112), type := 0, pos := "law.go:51", after := #[{ on := 0, ground := Ground.data }, { on := 4, ground := Ground.chain }, { on := 0, ground := Ground.phase }, { on := 1, ground := Ground.textOnly Departure.lateStores }, { on := 2, ground := Ground.textOnly Departure.lateStoresUnsure }, { on := 3, ground := Ground.textOnly Departure.lateStores }, { on := 4, ground := Ground.textOnly Departure.lateStoresUnsure }], guard := none }) (by kernel_rfl) rfl (fun K hK => ?_)
  rw [if_pos (by rfl)]
  refine wp_store_row 39 _ _ rfl g7 RS rfl rfl 39 _ G75 SZS.out CSX.out ONS.out ?_
  refine hK.out _ _ (fun h => absurd (by decide) h) ?_
  clear hK K
  refine take_p 6 8 (.bool true) rfl rfl (by kernel_rfl) (by kernel_rfl) (by kernel_rfl) (fun _ _ _ h => h) rfl (fun w => by go_simp) ?_
  try simp only [List.setIfInBounds_toArray, List.set_cons_zero, List.set_cons_succ]
  refine done_f (by kernel_rfl) ?_ _
  have D6P := hide1 ((D3.below hb5).row (b := g7) (.inl (.inr rfl)) RS)
  have G76 := hide1 (setRow_heap w5 g7 RR RS 39 (0, 0) G75)
  have BX6 := hide1 ((setRow_other w5 g7 gr RS (by have := NEQ.out; omega)).trans BX5.out)
  have BB6 : Hid (Below B w (w5.setRow g7 RS)) := ((BB2.out.drew.trans hb3).trans (hb5.mono D3.size)).trans D6P.out.2
  have D6 : Hid (Dw B s n v3 m3 u3 x.flush y LL' L' hv l' (fun b => (b = gr ∨ b = ga) ∨ b = g7) (w5.setRow g7 RS)) := D6P.out.1.mono fun b hb => .inl hb
  rw [← HY.out] at D6
  have OKY : Hid (y.Ok (N + 16)) := by unfold Hid; rw [HY.out]; exact HX.out.flush.mono (by omega)
  have SUMY : Hid (LL'.length + y.Q.length ≤ M + 1) := by have := HSUM.out; have := HSUM2.out; unfold Hid; omega
  clear D6P D3 hb3 hb5 hk3 hLk hKp G93 G75 hS RP4 RD4
  generalize w5.setRow g7 RS = W6 at D6 G76 BX6 BB6 ⊢
  go_upto_region 19 with (fail)
  have SZX : Hid (Option.map (fun x => x.size) (Tryz.prog.info? 39) = some RS.size) := by rw [HRX.out]; exact sz10 rfl
  have ONX : Hid (RS.all (·.oneCell') = true) := by rw [HRX.out]; exact rcs_one _ D6.out.rf
  have CX : Hid (RR.size = RS.size) := by rw [S10.out, HRX.out]; rfl
  have DYP := hide1 (D6.out.row (b := gr) (.inl (.inl rfl)) RS)
  have BYR := hide1 (setRow_heap W6 gr RR RS 39 (0, 0) BX6.out)
  go_upto_region 20 with (first | (refine wpList_load_row rfl 39 (.tmp 7) rfl g7 rfl 39 RS (0, 0) _ G76.out Tryz.underlying39 rfl SZX.out ?_) | (refine wpList_store_row rfl 39 (.tmp 119) (.tmp 118) rfl gr RS rfl rfl 39 _ BX6.out SZX.out CX.out ONX.out ?_) | fail)
  generalize W6.setRow gr RS = WY at DYP BYR ⊢
  have DY := hide1 DYP.out.1
  have BBY : Hid (Below B w WY) := BB6.out.trans DYP.out.2
  clear DYP
  have H0 := hide1 OKY.out.own0
  have HQ64 := hide1 OKY.out.Q64
  have HA16 := hide1 OKY.out.A16
  have kOwn : Hid (∀ X, Below WY.heap.size WY X → Calls Tryz.prog 14 #[.pointer (some ⟨s, 0, none⟩)] X fun e w' => e = .returned (.int .u32 (y.own : Int)) ∧ Below X.heap.size X w') := fun X hX => (lown_any (DY.out.below hX).lk H0.out).mono (by rintro e w' ⟨rfl, rfl⟩; exact ⟨rfl, Below.refl _ _⟩)
  have kPeer : Hid (∀ X, Below WY.heap.size WY X → Calls Tryz.prog 15 #[.pointer (some ⟨s, 0, none⟩)] X fun e w' => e = .returned (.int .u32 (y.peer : Int)) ∧ Below X.heap.size X w') := fun X hX => (lpeer_any (DY.out.below hX).lk H0.out).mono (by rintro e w' ⟨rfl, rfl⟩; exact ⟨rfl, Below.refl _ _⟩)
  have kReady : Hid (∀ X, Below WY.heap.size WY X → Calls Tryz.prog 16 #[.pointer (some ⟨s, 0, none⟩)] X fun e w' => e = .returned (.bool y.sure) ∧ Below X.heap.size X w') := fun X hX => (lready_any (DY.out.below hX).lk H0.out).mono (by rintro e w' ⟨rfl, rfl⟩; exact ⟨rfl, Below.refl _ _⟩)
  have kRoom : Hid (∀ X, Below WY.heap.size WY X → Calls Tryz.prog 17 #[.pointer (some ⟨s, 0, none⟩)] X fun e w' => e = .returned (.int .i64 (y.room : Int)) ∧ Below X.heap.size X w') := fun X hX => (lroom_any (DY.out.below hX).lk H0.out HQ64.out).mono (by rintro e w' ⟨rfl, rfl⟩; exact ⟨rfl, Below.refl _ _⟩)
  have kWait : Hid (∀ X, Below WY.heap.size WY X → Calls Tryz.prog 18 #[.pointer (some ⟨s, 0, none⟩)] X fun e w' => e = .returned (.int .i64 (y.waiting : Int)) ∧ Below X.heap.size X w') := fun X hX => (lwait_any (DY.out.below hX).lk H0.out HQ64.out HA16.out).mono (by rintro e w' ⟨rfl, rfl⟩; exact ⟨rfl, (Below.refl _ _).drew⟩)
  have rRoom : Hid (∀ X, Below WY.heap.size WY X → Calls Tryz.prog 32 #[.agg RS] X fun e w' => e = .returned (.int .i64 (y.room : Int)) ∧ Below X.heap.size X w') := fun X hX => by
    obtain ⟨la, lc, hl, _⟩ := DY.out.rf.ql
    have k := rroom_any y L' hv la lc X HQ64.out
    rw [← hl] at k
    unfold rv at k
    rw [← HRX.out] at k
    exact k
  have rWait : Hid (∀ X, Below WY.heap.size WY X → Calls Tryz.prog 33 #[.agg RS] X fun e w' => e = .returned (.int .i64 (y.waiting : Int)) ∧ Below X.heap.size X w') := fun X hX => by
    have k := rwaiting_any y LL' L' hv l' X (DY.out.below hX).rf HQ64.out
    unfold rv at k
    rw [← HRX.out] at k
    exact k
  have CLY : Hid (∀ X, Below WY.heap.size WY X → X.cell? ⟨gr, 0, none⟩ = some (.int .u32 (y.own : Int)) ∧ X.cell? ⟨gr, 1, none⟩ = some (.int .u32 (y.peer : Int)) ∧ X.cell? ⟨gr, 2, none⟩ = some (.bool y.sure) ∧ X.heap[gr]? = some (.cells RS 39 (0, 0))) := fun X hX => by
    have e1 := (hX.block gr (lt_heap BYR.out)).trans BYR.out
    have e2 := e1
    rw [HRX.out] at e2
    obtain ⟨⟨c0, c1, c2, _, _⟩, _⟩ := box10 e2
    exact ⟨c0, c1, c2, e1⟩
  have FINQ : Hid (∀ w', Below WY.heap.size WY w' → Q w') := fun w' hw => HQ.out w' y (OKY.out.mono (by omega)) ⟨_, _, _, LL', L', hv, l', ⟨((DY.out.below hw).lk).mono (by omega), (DY.out.below hw).rf, (DY.out.below hw).et, (DY.out.below hw).pos, (DY.out.below hw).rl, fun b hb => (DY.out.below hw).bs b (.inl (.inl hb))⟩, by rw [← HRX.out]; exact (hw.block gr (lt_heap BYR.out)).trans BYR.out, SUMY.out⟩ (BBY.out.trans (hw.mono DY.out.size))
  clear SZ ONE CX ONX
  generalize (y.room : Int) = rm at kRoom rRoom
  generalize (y.waiting : Int) = wt at kWait rWait
  refine region_f (F := []) (S := fun X => Below WY.heap.size WY X) (by kernel_rfl) (Below.refl _ _).drew (fun hS => ?_)
  refine take_p 0 120 (.bool true) rfl rfl (by kernel_rfl) (by kernel_rfl) (by kernel_rfl) (fun _ _ _ h => h) rfl (fun w => by go_simp) ?_
  try simp only [List.setIfInBounds_toArray, List.set_cons_zero, List.set_cons_succ]
  refine take_p 1 121 (.bool true) rfl rfl (by kernel_rfl) (by kernel_rfl) (by kernel_rfl) (fun _ _ _ h => h) rfl (fun w => by go_simp) ?_
  try simp only [List.setIfInBounds_toArray, List.set_cons_zero, List.set_cons_succ]
  refine take_p 2 122 (.pointer (some ⟨s, 0, none⟩)) rfl rfl (by kernel_rfl) (by kernel_rfl) (by kernel_rfl) (fun _ _ _ h => h) rfl (fun w => by go_simp) ?_
  try simp only [List.setIfInBounds_toArray, List.set_cons_zero, List.set_cons_succ]
  refine take_p 4 124 (.pointer (some ⟨gr, 0, none⟩)) rfl rfl (by kernel_rfl) (by kernel_rfl) (by kernel_rfl) (fun _ _ _ h => h) rfl (fun w => by go_simp) ?_
  try simp only [List.setIfInBounds_toArray, List.set_cons_zero, List.set_cons_succ]
  refine take_p 5 125 (.pointer (some ⟨gr, 0, none⟩)) rfl rfl (by kernel_rfl) (by kernel_rfl) (by kernel_rfl) (fun _ _ _ h => h) rfl (fun w => by go_simp) ?_
  try simp only [List.setIfInBounds_toArray, List.set_cons_zero, List.set_cons_succ]
  refine take_p 6 126 (.pointer (some ⟨gr, 0, none⟩)) rfl rfl (by kernel_rfl) (by kernel_rfl) (by kernel_rfl) (fun _ _ _ h => h) rfl (fun w => by go_simp) ?_
  try simp only [List.setIfInBounds_toArray, List.set_cons_zero, List.set_cons_succ]
  refine take_f 7 127 (.int .u32 (y.own : Int)) [8, 9, 10, 11, 12, 13, 14, 15, 16, 17, 18, 19, 20, 21, 22, 23, 24, 25, 26, 27, 28, 29, 30, 31, 32, 33, 34, 35, 36, 37, 38, 39, 40, 41, 42, 43, 44, 45, 46] rfl rfl (by kernel_rfl) (by kernel_rfl) (by kernel_rfl) (by kernel_rfl) (by kernel_rfl) (by kernel_rfl) (fun _ _ _ h => h) rfl (fun w hSw => by obtain ⟨h0, h1, h2, h3⟩ := CLY.out _ hSw; go_simp) hS ?_
  try simp only [List.setIfInBounds_toArray, List.set_cons_zero, List.set_cons_succ]
  refine ready_f 3 (o := { dst := some 123, op := Op.call { callee := Callee.value (Operand.func 14), args := #[Operand.tmp 122], argTypes := #[24] }, type := 22, pos := "law.go:62", after := #[{ on := 2, ground := Ground.data }, { on := 1, ground := Ground.chain }, { on := 1, ground := Ground.guard }], guard := some (1, true) }) (by kernel_rfl) rfl (fun K hK => ?_)
  go_simp
  refine (kOwn.out _ hS).mono ?_
  rintro e wn ⟨rfl, hbn⟩
  replace hS := hS.trans (hbn.mono hS.size)
  clear hbn
  refine hK.out _ _ (fun _ _ => hS) ?_
  clear hK K
  try simp only [Act.put, List.setIfInBounds_toArray, List.set_cons_zero, List.set_cons_succ]
  refine take_p 8 128 (.bool true) rfl rfl (by kernel_rfl) (by kernel_rfl) (by kernel_rfl) (fun _ _ _ h => h) rfl (fun w => by go_simp) ?_
  try simp only [List.setIfInBounds_toArray, List.set_cons_zero, List.set_cons_succ]
  refine take_p 9 129 (.bool true) rfl rfl (by kernel_rfl) (by kernel_rfl) (by kernel_rfl) (fun _ _ _ h => h) rfl (fun w => by go_simp) ?_
  try simp only [List.setIfInBounds_toArray, List.set_cons_zero, List.set_cons_succ]
  refine take_p 10 130 (.bool true) rfl rfl (by kernel_rfl) (by kernel_rfl) (by kernel_rfl) (fun _ _ _ h => h) rfl (fun w => by go_simp) ?_
  try simp only [List.setIfInBounds_toArray, List.set_cons_zero, List.set_cons_succ]
  refine take_p 11 131 (.pointer (some ⟨s, 0, none⟩)) rfl rfl (by kernel_rfl) (by kernel_rfl) (by kernel_rfl) (fun _ _ _ h => h) rfl (fun w => by go_simp) ?_
  try simp only [List.setIfInBounds_toArray, List.set_cons_zero, List.set_cons_succ]
  refine take_p 13 133 (.pointer (some ⟨gr, 0, none⟩)) rfl rfl (by kernel_rfl) (by kernel_rfl) (by kernel_rfl) (fun _ _ _ h => h) rfl (fun w => by go_simp) ?_
  try simp only [List.setIfInBounds_toArray, List.set_cons_zero, List.set_cons_succ]
  refine take_p 14 134 (.pointer (some ⟨gr, 0, none⟩)) rfl rfl (by kernel_rfl) (by kernel_rfl) (by kernel_rfl) (fun _ _ _ h => h) rfl (fun w => by go_simp) ?_
  try simp only [List.setIfInBounds_toArray, List.set_cons_zero, List.set_cons_succ]
  refine take_p 15 135 (.pointer (some ⟨gr, 1, none⟩)) rfl rfl (by kernel_rfl) (by kernel_rfl) (by kernel_rfl) (fun _ _ _ h => h) rfl (fun w => by go_simp) ?_
  try simp only [List.setIfInBounds_toArray, List.set_cons_zero, List.set_cons_succ]
  refine take_f 16 136 (.int .u32 (y.peer : Int)) [17, 18, 19, 20, 21, 22, 23, 24, 25, 26, 27, 28, 29, 30, 31, 32, 33, 34, 35, 36, 37, 38, 39, 40, 41, 42, 43, 44, 45, 46] rfl rfl (by kernel_rfl) (by kernel_rfl) (by kernel_rfl) (by kernel_rfl) (by kernel_rfl) (by kernel_rfl) (fun _ _ _ h => h) rfl (fun w hSw => by obtain ⟨h0, h1, h2, h3⟩ := CLY.out _ hSw; go_simp) hS ?_
  try simp only [List.setIfInBounds_toArray, List.set_cons_zero, List.set_cons_succ]
  refine ready_f 12 (o := { dst := some 132, op := Op.call { callee := Callee.value (Operand.func 15), args := #[Operand.tmp 131], argTypes := #[24] }, type := 22, pos := "law.go:62", after := #[{ on := 11, ground := Ground.data }, { on := 10, ground := Ground.chain }, { on := 10, ground := Ground.guard }], guard := some (10, true) }) (by kernel_rfl) rfl (fun K hK => ?_)
  go_simp
  refine (kPeer.out _ hS).mono ?_
  rintro e wn ⟨rfl, hbn⟩
  replace hS := hS.trans (hbn.mono hS.size)
  clear hbn
  refine hK.out _ _ (fun _ _ => hS) ?_
  clear hK K
  try simp only [Act.put, List.setIfInBounds_toArray, List.set_cons_zero, List.set_cons_succ]
  refine take_p 17 137 (.bool true) rfl rfl (by kernel_rfl) (by kernel_rfl) (by kernel_rfl) (fun _ _ _ h => h) rfl (fun w => by go_simp) ?_
  try simp only [List.setIfInBounds_toArray, List.set_cons_zero, List.set_cons_succ]
  refine take_p 18 138 (.bool true) rfl rfl (by kernel_rfl) (by kernel_rfl) (by kernel_rfl) (fun _ _ _ h => h) rfl (fun w => by go_simp) ?_
  try simp only [List.setIfInBounds_toArray, List.set_cons_zero, List.set_cons_succ]
  refine take_p 19 139 (.bool true) rfl rfl (by kernel_rfl) (by kernel_rfl) (by kernel_rfl) (fun _ _ _ h => h) rfl (fun w => by go_simp) ?_
  try simp only [List.setIfInBounds_toArray, List.set_cons_zero, List.set_cons_succ]
  refine take_p 20 140 (.pointer (some ⟨s, 0, none⟩)) rfl rfl (by kernel_rfl) (by kernel_rfl) (by kernel_rfl) (fun _ _ _ h => h) rfl (fun w => by go_simp) ?_
  try simp only [List.setIfInBounds_toArray, List.set_cons_zero, List.set_cons_succ]
  refine take_p 22 142 (.pointer (some ⟨gr, 0, none⟩)) rfl rfl (by kernel_rfl) (by kernel_rfl) (by kernel_rfl) (fun _ _ _ h => h) rfl (fun w => by go_simp) ?_
  try simp only [List.setIfInBounds_toArray, List.set_cons_zero, List.set_cons_succ]
  refine take_p 23 143 (.pointer (some ⟨gr, 0, none⟩)) rfl rfl (by kernel_rfl) (by kernel_rfl) (by kernel_rfl) (fun _ _ _ h => h) rfl (fun w => by go_simp) ?_
  try simp only [List.setIfInBounds_toArray, List.set_cons_zero, List.set_cons_succ]
  refine take_p 24 144 (.pointer (some ⟨gr, 2, none⟩)) rfl rfl (by kernel_rfl) (by kernel_rfl) (by kernel_rfl) (fun _ _ _ h => h) rfl (fun w => by go_simp) ?_
  try simp only [List.setIfInBounds_toArray, List.set_cons_zero, List.set_cons_succ]
  refine take_f 25 145 (.bool y.sure) [26, 27, 28, 29, 30, 31, 32, 33, 34, 35, 36, 37, 38, 39, 40, 41, 42, 43, 44, 45, 46] rfl rfl (by kernel_rfl) (by kernel_rfl) (by kernel_rfl) (by kernel_rfl) (by kernel_rfl) (by kernel_rfl) (fun _ _ _ h => h) rfl (fun w hSw => by obtain ⟨h0, h1, h2, h3⟩ := CLY.out _ hSw; go_simp) hS ?_
  try simp only [List.setIfInBounds_toArray, List.set_cons_zero, List.set_cons_succ]
  refine ready_f 21 (o := { dst := some 141, op := Op.call { callee := Callee.value (Operand.func 16), args := #[Operand.tmp 140], argTypes := #[24] }, type := 4, pos := "law.go:62", after := #[{ on := 20, ground := Ground.data }, { on := 19, ground := Ground.chain }, { on := 19, ground := Ground.guard }], guard := some (19, true) }) (by kernel_rfl) rfl (fun K hK => ?_)
  go_simp
  refine (kReady.out _ hS).mono ?_
  rintro e wn ⟨rfl, hbn⟩
  replace hS := hS.trans (hbn.mono hS.size)
  clear hbn
  refine hK.out _ _ (fun _ _ => hS) ?_
  clear hK K
  try simp only [Act.put, List.setIfInBounds_toArray, List.set_cons_zero, List.set_cons_succ]
  refine take_p 26 146 (.bool true) rfl rfl (by kernel_rfl) (by kernel_rfl) (by kernel_rfl) (fun _ _ _ h => h) rfl (fun w => by go_simp) ?_
  try simp only [List.setIfInBounds_toArray, List.set_cons_zero, List.set_cons_succ]
  refine take_p 27 147 (.bool true) rfl rfl (by kernel_rfl) (by kernel_rfl) (by kernel_rfl) (fun _ _ _ h => h) rfl (fun w => by go_simp) ?_
  try simp only [List.setIfInBounds_toArray, List.set_cons_zero, List.set_cons_succ]
  refine take_p 28 148 (.bool true) rfl rfl (by kernel_rfl) (by kernel_rfl) (by kernel_rfl) (fun _ _ _ h => h) rfl (fun w => by go_simp) ?_
  try simp only [List.setIfInBounds_toArray, List.set_cons_zero, List.set_cons_succ]
  refine take_p 29 149 (.pointer (some ⟨s, 0, none⟩)) rfl rfl (by kernel_rfl) (by kernel_rfl) (by kernel_rfl) (fun _ _ _ h => h) rfl (fun w => by go_simp) ?_
  try simp only [List.setIfInBounds_toArray, List.set_cons_zero, List.set_cons_succ]
  refine take_p 31 151 (.pointer (some ⟨gr, 0, none⟩)) rfl rfl (by kernel_rfl) (by kernel_rfl) (by kernel_rfl) (fun _ _ _ h => h) rfl (fun w => by go_simp) ?_
  try simp only [List.setIfInBounds_toArray, List.set_cons_zero, List.set_cons_succ]
  refine take_p 32 152 (.pointer (some ⟨gr, 0, none⟩)) rfl rfl (by kernel_rfl) (by kernel_rfl) (by kernel_rfl) (fun _ _ _ h => h) rfl (fun w => by go_simp) ?_
  try simp only [List.setIfInBounds_toArray, List.set_cons_zero, List.set_cons_succ]
  refine take_f 33 153 (.agg RS) [34, 35, 36, 37, 38, 39, 40, 41, 42, 43, 44, 45, 46] rfl rfl (by kernel_rfl) (by kernel_rfl) (by kernel_rfl) (by kernel_rfl) (by kernel_rfl) (by kernel_rfl) (fun _ _ _ h => h) rfl (fun w hSw => by exact exec_load_box 39 (.tmp 152) rfl _ rfl 39 _ _ ((CLY.out _ hSw).2.2.2) Tryz.underlying39 rfl SZX.out) hS ?_
  try simp only [List.setIfInBounds_toArray, List.set_cons_zero, List.set_cons_succ]
  refine ready_f 30 (o := { dst := some 150, op := Op.call { callee := Callee.value (Operand.func 17), args := #[Operand.tmp 149], argTypes := #[24] }, type := 3, pos := "law.go:62", after := #[{ on := 29, ground := Ground.data }, { on := 28, ground := Ground.chain }, { on := 28, ground := Ground.guard }], guard := some (28, true) }) (by kernel_rfl) rfl (fun K hK => ?_)
  go_simp
  refine (kRoom.out _ hS).mono ?_
  rintro e wn ⟨rfl, hbn⟩
  replace hS := hS.trans (hbn.mono hS.size)
  clear hbn
  refine hK.out _ _ (fun _ _ => hS) ?_
  clear hK K
  try simp only [Act.put, List.setIfInBounds_toArray, List.set_cons_zero, List.set_cons_succ]
  refine ready_f 34 (o := { dst := some 154, op := Op.call { callee := Callee.value (Operand.func 32), args := #[Operand.tmp 153], argTypes := #[46] }, type := 3, pos := "law.go:62", after := #[{ on := 33, ground := Ground.data }, { on := 30, ground := Ground.chain }, { on := 28, ground := Ground.guard }], guard := some (28, true) }) (by kernel_rfl) rfl (fun K hK => ?_)
  go_simp
  refine (rRoom.out _ hS).mono ?_
  rintro e wn ⟨rfl, hbn⟩
  replace hS := hS.trans (hbn.mono hS.size)
  clear hbn
  refine hK.out _ _ (fun _ _ => hS) ?_
  clear hK K
  try simp only [Act.put, List.setIfInBounds_toArray, List.set_cons_zero, List.set_cons_succ]
  refine take_p 35 155 (.bool true) rfl rfl (by kernel_rfl) (by kernel_rfl) (by kernel_rfl) (fun _ _ _ h => h) rfl (fun w => by go_simp) ?_
  try simp only [List.setIfInBounds_toArray, List.set_cons_zero, List.set_cons_succ]
  refine take_p 36 156 (.bool true) rfl rfl (by kernel_rfl) (by kernel_rfl) (by kernel_rfl) (fun _ _ _ h => h) rfl (fun w => by go_simp) ?_
  try simp only [List.setIfInBounds_toArray, List.set_cons_zero, List.set_cons_succ]
  refine take_p 37 157 (.bool true) rfl rfl (by kernel_rfl) (by kernel_rfl) (by kernel_rfl) (fun _ _ _ h => h) rfl (fun w => by go_simp) ?_
  try simp only [List.setIfInBounds_toArray, List.set_cons_zero, List.set_cons_succ]
  refine take_p 38 158 (.pointer (some ⟨s, 0, none⟩)) rfl rfl (by kernel_rfl) (by kernel_rfl) (by kernel_rfl) (fun _ _ _ h => h) rfl (fun w => by go_simp) ?_
  try simp only [List.setIfInBounds_toArray, List.set_cons_zero, List.set_cons_succ]
  refine take_p 40 160 (.pointer (some ⟨gr, 0, none⟩)) rfl rfl (by kernel_rfl) (by kernel_rfl) (by kernel_rfl) (fun _ _ _ h => h) rfl (fun w => by go_simp) ?_
  try simp only [List.setIfInBounds_toArray, List.set_cons_zero, List.set_cons_succ]
  refine take_p 41 161 (.pointer (some ⟨gr, 0, none⟩)) rfl rfl (by kernel_rfl) (by kernel_rfl) (by kernel_rfl) (fun _ _ _ h => h) rfl (fun w => by go_simp) ?_
  try simp only [List.setIfInBounds_toArray, List.set_cons_zero, List.set_cons_succ]
  refine take_f 42 162 (.agg RS) [43, 44, 45, 46] rfl rfl (by kernel_rfl) (by kernel_rfl) (by kernel_rfl) (by kernel_rfl) (by kernel_rfl) (by kernel_rfl) (fun _ _ _ h => h) rfl (fun w hSw => by exact exec_load_box 39 (.tmp 161) rfl _ rfl 39 _ _ ((CLY.out _ hSw).2.2.2) Tryz.underlying39 rfl SZX.out) hS ?_
  try simp only [List.setIfInBounds_toArray, List.set_cons_zero, List.set_cons_succ]
  refine ready_f 39 (o := { dst := some 159, op := Op.call { callee := Callee.value (Operand.func 18), args := #[Operand.tmp 158], argTypes := #[24] }, type := 3, pos := "law.go:62", after := #[{ on := 38, ground := Ground.data }, { on := 37, ground := Ground.chain }, { on := 37, ground := Ground.guard }], guard := some (37, true) }) (by kernel_rfl) rfl (fun K hK => ?_)
  go_simp
  refine (kWait.out _ hS).mono ?_
  rintro e wn ⟨rfl, hbn⟩
  replace hS := hS.trans (hbn.mono hS.size)
  clear hbn
  refine hK.out _ _ (fun _ _ => hS) ?_
  clear hK K
  try simp only [Act.put, List.setIfInBounds_toArray, List.set_cons_zero, List.set_cons_succ]
  refine ready_f 43 (o := { dst := some 163, op := Op.call { callee := Callee.value (Operand.func 33), args := #[Operand.tmp 162], argTypes := #[46] }, type := 3, pos := "law.go:62", after := #[{ on := 42, ground := Ground.data }, { on := 39, ground := Ground.chain }, { on := 37, ground := Ground.guard }], guard := some (37, true) }) (by kernel_rfl) rfl (fun K hK => ?_)
  go_simp
  refine (rWait.out _ hS).mono ?_
  rintro e wn ⟨rfl, hbn⟩
  replace hS := hS.trans (hbn.mono hS.size)
  clear hbn
  refine hK.out _ _ (fun _ _ => hS) ?_
  clear hK K
  try simp only [Act.put, List.setIfInBounds_toArray, List.set_cons_zero, List.set_cons_succ]
  refine take_p 44 164 (.bool true) rfl rfl (by kernel_rfl) (by kernel_rfl) (by kernel_rfl) (fun _ _ _ h => h) rfl (fun w => by go_simp) ?_
  try simp only [List.setIfInBounds_toArray, List.set_cons_zero, List.set_cons_succ]
  refine take_p 45 165 (.bool true) rfl rfl (by kernel_rfl) (by kernel_rfl) (by kernel_rfl) (fun _ _ _ h => h) rfl (fun w => by go_simp) ?_
  try simp only [List.setIfInBounds_toArray, List.set_cons_zero, List.set_cons_succ]
  refine take_p 46 6 (.bool true) rfl rfl (by kernel_rfl) (by kernel_rfl) (by kernel_rfl) (fun _ _ _ h => h) rfl (fun w => by go_simp) ?_
  try simp only [List.setIfInBounds_toArray, List.set_cons_zero, List.set_cons_succ]
  refine done_f (by kernel_rfl) ?_ _
  have FF := hide1 (FINQ.out _ hS)
  clear hS
  go_wp2
  go_ret
  exact ⟨rfl, FF.out⟩

end Go.Proofs.YtcadlcpccemkbaaGreatDoor
