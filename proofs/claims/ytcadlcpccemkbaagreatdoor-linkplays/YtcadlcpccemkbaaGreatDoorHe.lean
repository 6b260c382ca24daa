/- does: Receive. -/
import Derived.Test.YtcadlcpccemkbaaGreatDoorHd
namespace Go.Proofs.YtcadlcpccemkbaaGreatDoor
open Go.RowKit
set_option maxRecDepth 100000
attribute [local go_sem] not_any

theorem takeB_len {N : Nat} {x : Ls} (h : x.Ok N) (k o p q a : Nat) (b : ByteArray) (ho0 : 0 < o) (ho : o < 4294967296) : (x.takeB k o p q a b).length ≤ 1000000 := by
  unfold Ls.takeB
  split
  · simp
  · split
    · simp
    · have h2 := (h.meet ho).sured k (by rw [Ls.meet_peer]; exact ho0)
      unfold Ls.openB
      split
      · simp
      · split
        · simp
        · have := tkO_len (q := q) (b := b) h2.hd
          omega
theorem recvB_len {N : Nat} {x : Ls} (h : x.Ok N) (t : ByteArray) : (x.recvB t).length ≤ 1000000 := by
  unfold Ls.recvB
  split
  · rename_i hg
    have hc0 := hg.2
    unfold X.decC at hc0
    have ho := chk_own hc0
    exact takeB_len h _ _ _ _ _ _ (by omega) (X.hdN_lt t 1)
  · simp
theorem meet_Q (x : Ls) (o : Nat) : (x.meet o).Q.length ≤ x.Q.length := by
  unfold Ls.meet
  split
  · exact Nat.le_refl _
  · exact Nat.zero_le _
theorem recvX_Q (x : Ls) (t : ByteArray) : (x.recvX t).Q.length ≤ x.Q.length := by
  unfold Ls.recvX
  split
  · unfold Ls.takeX
    split
    · exact Nat.le_refl _
    · split
      · exact meet_Q x _
      · unfold Ls.openX
        split
        · exact meet_Q x _
        · split
          · exact meet_Q x _
          · exact meet_Q x _
  · exact Nat.le_refl _
theorem Erl.below {w w' : World} {c : Int} {z : Value} (h : Erl w c z) (hb : Below w.heap.size w w') : Erl w' c z := by
  rcases h with h | ⟨hc, d, p, hd, rfl, hch⟩
  · exact .inl h
  · exact .inr ⟨hc, d, p, hd, rfl, hch.same fun g hg => hb.block g hg⟩
theorem enc_some (fk : Int) (fo fp fq fa : Nat) (fb : ByteArray) (hb : fb.size ≤ 1000) (ho : fo < 4294967296) (hp : fp < 4294967296) (hq : fq < 4294967296) (ha : fa < 4294967296) :
    ∃ (tf : ByteArray) (ec : Int), tf.size ≤ 66000 ∧ Hid (∀ X, Calls Tryz.prog 30 #[.agg #[.int .i64 fk, .int .u32 (fo : Int), .int .u32 (fp : Int), .int .u32 (fq : Int), .int .u32 (fa : Int), .string fb]] X fun e w' => e = .returned (.tuple #[.string tf, .int .i64 ec]) ∧ Below X.heap.size X w') := by
  by_cases hc : X.chk fk fo fp fq fa fb.size = 0
  · obtain ⟨_, h1, h3⟩ := X.chk_size hc
    obtain ⟨k, rfl⟩ : ∃ k : Nat, fk = (k : Int) := ⟨fk.toNat, by omega⟩
    refine ⟨tx k fo fp fq fa fb, 0, ?_, fun Z => X.rencode_ok k fo fp fq fa fb Z hc ho hp hq ha⟩
    rw [tx, X.enc_size]
    omega
  · exact ⟨⟨#[]⟩, _, by decide, fun Z => X.rencode_bad fk fo fp fq fa fb Z hc⟩

set_option maxHeartbeats 8000000 in
theorem does_3 {N B s gr n M : Nat} {x : Ls} {w : World} (h : Dv B s gr n x M w) (hx : x.Ok N) (hN : N + 1000 < 4294967296) (hn : n < 1000000) (hM : M ≤ 900) (kd : Int) (body : ByteArray) (hb : body.size ≤ 1000) (fk : Int) (fo fp fq fa : Nat) (fb : ByteArray) (hk : kd ≠ 0 ∧ kd ≠ 1 ∧ kd ≠ 2) (hfb : fb.size ≤ 1000) (ho : fo < 4294967296) (hp : fp < 4294967296) (hq : fq < 4294967296) (ha : fa < 4294967296) :
    Calls Tryz.prog 9 #[.pointer (some ⟨s, 0, none⟩), .pointer (some ⟨gr, 0, none⟩), .agg #[.int .i64 kd, .string body, .int .i64 fk, .int .u32 (fo : Int), .int .u32 (fp : Int), .int .u32 (fq : Int), .int .u32 (fa : Int), .string fb]] w fun e w' => e = .returned (.bool true) ∧ ∃ y, y.Ok (N + 16) ∧ Dv B s gr (n + 1) y (M + 1) w' ∧ Below B w w' := by
  have HKD := hide1 hk
  have HEN := hide1 (enc_some fk fo fp fq fa fb hfb ho hp hq ha)
  clear hk hfb ho hp hq ha
  obtain ⟨v, m, u, LL, LLv, hv, lv, hD, hbox, hsum⟩ := h
  obtain ⟨RR, hRR⟩ : ∃ R, R = rcs x LLv hv lv := ⟨_, rfl⟩
  have SZ : Hid (Option.map (fun x => x.size) (Tryz.prog.info? 39) = some RR.size) := by rw [hRR]; exact sz10 rfl
  have ONE : Hid (RR.all (·.oneCell') = true) := by rw [hRR]; exact rcs_one x hD.rf
  have S10 : Hid (RR.size = 10) := by rw [hRR]; rfl
  rw [← hRR] at hbox
  have HRR := hide1 hRR
  have HX := hide1 hx
  have HN := hide1 hN
  have HM := hide1 hM
  have HNN := hide1 hn
  have HB := hide1 hb
  have HSUM := hide1 hsum
  have D0 := hide1 hD
  have BX0 := hide1 hbox
  obtain ⟨Q, hQ⟩ : ∃ Q : World → Prop, Q = fun w' => ∃ y, y.Ok (N + 16) ∧ Dv B s gr (n + 1) y (M + 1) w' ∧ Below B w w' := ⟨_, rfl⟩
  have HQ : Hid (∀ w' y, y.Ok (N + 16) → Dv B s gr (n + 1) y (M + 1) w' → Below B w w' → Q w') := fun w' y h1 h2 h3 => by rw [hQ]; exact ⟨y, h1, h2, h3⟩
  suffices hs : Calls Tryz.prog 9 #[.pointer (some ⟨s, 0, none⟩), .pointer (some ⟨gr, 0, none⟩), .agg #[.int .i64 kd, .string body, .int .i64 fk, .int .u32 (fo : Int), .int .u32 (fp : Int), .int .u32 (fq : Int), .int .u32 (fa : Int), .string fb]] w fun e w' => e = .returned (.bool true) ∧ Q w' by rw [hQ] at hs; exact hs
  clear hQ hD hbox hsum hRR hx hN hM hn hb
  go_enter Tryz.func9, Tryz.ntmps9
  go_upto_region 1 with (fail)
  generalize hW : World.alloc w _ = W0
  have DA := hide1 (hW ▸ D0.out.more (.cells #[.int .i64 kd, .string body, .int .i64 fk, .int .u32 (fo : Int), .int .u32 (fp : Int), .int .u32 (fq : Int), .int .u32 (fa : Int), .string fb] 44))
  have A0 : Hid (W0.heap[w.heap.size]? = some (.cells #[.int .i64 kd, .string body, .int .i64 fk, .int .u32 (fo : Int), .int .u32 (fp : Int), .int .u32 (fq : Int), .int .u32 (fa : Int), .string fb] 44 (0, 0))) := by unfold Hid; rw [← hW]; exact heap_alloc_new w _
  have b0 : Below w.heap.size w W0 := by rw [← hW]; exact below1 _
  have BXA := hide1 ((b0.block gr (D0.out.bs gr rfl).2.1).trans BX0.out)
  obtain ⟨ga, hga⟩ : ∃ ga, w.heap.size = ga := ⟨_, rfl⟩
  have BB0 : Hid (Below B w W0) := b0.mono D0.out.size
  rw [hga] at DA A0
  try rw [hga]
  clear hW b0 hga D0 BX0
  go_upto_region 2 with (first | (refine wpList_load_row rfl 39 (.tmp 21) rfl gr rfl 39 RR (0, 0) _ BXA.out Tryz.underlying39 rfl SZ.out ?_) | (refine wpList_store_row rfl 39 (.tmp 7) (.tmp 22) rfl W0.heap.size RR rfl rfl 39 _ (heap_alloc_new W0 _) SZ.out S10.out.symm ONE.out ?_) | fail)
  generalize hW : World.setRow (World.alloc W0 _) _ _ = W1
  have b1 : Below W0.heap.size W0 W1 := by rw [← hW]; exact below_setRow (below1 _) (Nat.le_refl _) _
  have D1 : Hid (Dw B s n v m u x x LL LLv hv lv (fun b => (b = gr ∨ b = ga) ∨ b = W0.heap.size) W1) := by
    unfold Hid
    rw [← hW]
    exact ((DA.out.more _).row (.inr rfl) _).1
  have G7 : Hid (W1.heap[W0.heap.size]? = some (.cells RR 39 (0, 0))) := by unfold Hid; rw [← hW]; exact setRow_heap _ _ _ _ _ _ (heap_alloc_new W0 _)
  have A1 := hide1 ((b1.block _ (lt_heap A0.out)).trans A0.out)
  have BX1 := hide1 ((b1.block _ (lt_heap BXA.out)).trans BXA.out)
  have BB1 : Hid (Below B w W1) := BB0.out.trans (b1.mono DA.out.size)
  have NEQ : Hid (gr < W0.heap.size) := (DA.out.bs gr (.inl rfl)).2.1
  obtain ⟨g7, hg7⟩ : ∃ g7, W0.heap.size = g7 := ⟨_, rfl⟩
  rw [hg7] at D1 G7 NEQ
  try rw [hg7]
  clear hW b1 hg7 DA A0 BXA BB0
  obtain ⟨⟨k0, k1, k2, k3, k4, k5, k6, k7⟩, kfr⟩ := act_cells A1.out

  have gk0 : ((kd : Int) == 0) = false := by simpa using HKD.out.1
  have gk1 : ((kd : Int) == 1) = false := by simpa using HKD.out.2.1
  have gk2 : ((kd : Int) == 2) = false := by simpa using HKD.out.2.2
  have LF1 : Hid (∀ b, Lf s v m u b → b < W1.heap.size) := fun b hb => (D1.out.lk.flt hb).2
  obtain ⟨tf, ec, htf, kE⟩ : ∃ (tf : ByteArray) (ec : Int), tf.size ≤ 66000 ∧ Hid (∀ X, Calls Tryz.prog 30 #[.agg #[.int .i64 fk, .int .u32 (fo : Int), .int .u32 (fp : Int), .int .u32 (fq : Int), .int .u32 (fa : Int), .string fb]] X fun e w' => e = .returned (.tuple #[.string tf, .int .i64 ec]) ∧ Below X.heap.size X w') := HEN.out
  have HTF := hide1 htf
  clear htf
  go_upto_if 29 with (fail)
  go_cut [15] from 29 to 35 (fun x15 wx => ∃ t, x15 = .string t ∧ t.size ≤ 66000 ∧ Below W1.heap.size W1 wx)
  case first =>
    by_cases hk3 : kd = 3
    · have gk3 : ((kd : Int) == 3) = true := by simp [hk3]
      rw [gk3]
      clear hk3
      go_wp2_with (fail)
      refine (kE.out _).mono ?_
      rintro e w2 ⟨rfl, hb2⟩
      have HB2 := hide1 hb2
      clear hb2
      go_wp2_with (fail)
      go_meet
      exact ⟨tf, rfl, HTF.out, HB2.out⟩
    · have gk3 : ((kd : Int) == 3) = false := by simpa using hk3
      rw [gk3]
      clear hk3
      go_wp2_with (fail)
      go_meet
      exact ⟨body, rfl, by have := HB.out; omega, Below.refl _ _⟩
  case rest =>
  obtain ⟨t, rfl, ht, hbc⟩ := hcut
  have HT := hide1 ht
  have DC := hide1 (D1.out.below hbc)
  have G7C := hide1 ((hbc.block g7 (lt_heap G7.out)).trans G7.out)
  have BXC := hide1 ((hbc.block gr (lt_heap BX1.out)).trans BX1.out)
  have BBC : Hid (Below B w wc) := BB1.out.trans (hbc.mono D1.out.size)
  clear ht hbc k0 k1 k2 k3 k4 k5 k6 k7 kfr gk0 gk1 gk2 kE
  obtain ⟨y, hy⟩ : ∃ y, y = x.recvX t := ⟨_, rfl⟩
  obtain ⟨an, han⟩ : ∃ an, an = x.recvA t := ⟨_, rfl⟩
  obtain ⟨cc, hcc⟩ : ∃ cc, cc = x.recvC t := ⟨_, rfl⟩
  have HY := hide1 hy
  have HAN := hide1 han
  have HCC := hide1 hcc
  have FLEN : Hid ((x.recvB t).length ≤ 1000000) := recvB_len HX.out t
  have kF : Hid (Calls Tryz.prog 31 #[.agg RR, .string t] wc fun e w' => ∃ RS LL' L' h' l' ya yn yc, e = .returned (.tuple #[.agg RS, .agg #[.slice ya yn yc, .bool an, .int .i64 cc]]) ∧ RS = rcs y L' h' l' ∧ Rfp x LL LLv hv lv wc y LL' L' h' l' w' ∧ LL'.length ≤ LL.length ∧ Rdl w' (.slice ya yn yc) (x.recvB t) ∧ (x.recvB t ≠ [] → ∀ b, (Value.slice ya yn yc).ownBlock = some b → wc.heap.size ≤ b)) := by
    have k := rrecv_any x LL LLv hv lv wc t HT.out DC.out.rf HX.out HN.out
    unfold rv at k
    rw [← HRR.out] at k
    refine k.mono ?_
    rintro e w' ⟨LL', L', h', l', bv, rfl, h1, h2, h3, h4⟩
    obtain ⟨a, c, rfl, _⟩ := id h2
    rw [hy, han, hcc]
    exact ⟨_, LL', L', h', l', a, _, c, rfl, rfl, h1, h3, h2, h4⟩
  clear hy han hcc
  go_upto_region 7 with (fail)
  go_wp2_with (first | (refine wpList_load_row rfl 39 (.tmp 38) rfl gr rfl 39 RR (0, 0) _ BXC.out Tryz.underlying39 rfl SZ.out ?_) | fail)
  refine kF.out.mono ?_
  rintro e w2 ⟨RS, LL', L', h', l', ya, yn, yc, rfl, hRS, hp, hsum, hrd, hrl⟩
  have HRX := hide1 hRS
  have SZS : Hid (Option.map (fun x => x.size) (Tryz.prog.info? 39) = some RS.size) := by rw [hRS]; exact sz10 rfl
  have CSX : Hid (RR.size = RS.size) := by rw [S10.out, hRS]; rfl
  have CZ : Hid ((#[.int .u32 0, .int .u32 0, .bool false, .int .i64 0, .slice none 0 0, .int .i64 0, .int .i64 0, .slice none 0 0, .slice none 0 0, .bool false] : Array Value).size = RS.size) := by rw [hRS]; rfl
  have ONS : Hid (RS.all (·.oneCell') = true) := by rw [hRS]; exact rcs_one y hp.1
  have RL2 := hide1 hrl
  have HSUM2 := hide1 hsum
  clear hRS hrl hsum
  have E17 : Hid ((((w2.alloc (.cells #[.int .u32 0, .int .u32 0, .bool false, .int .i64 0, .slice none 0 0, .int .i64 0, .int .i64 0, .slice none 0 0, .slice none 0 0, .bool false] 39)).alloc (.cells #[.slice none 0 0, .bool false, .int .i64 0] 85)).setRow w2.heap.size RS).heap[w2.heap.size + 1]? = some (.cells #[.slice none 0 0, .bool false, .int .i64 0] 85 (0, 0))) := (setRow_other _ _ _ _ (by omega)).trans (heap_alloc2_new w2 _ _)
  go_upto_region 8 with (first | (refine wpList_store_row rfl 39 (.tmp 16) (.tmp 42) rfl w2.heap.size RS rfl rfl 39 _ (heap_alloc2_old w2 _ _) SZS.out CZ.out ONS.out ?_) | (refine wpList_store_row rfl 85 (.tmp 17) (.tmp 43) rfl (w2.heap.size + 1) #[.slice ya yn yc, .bool an, .int .i64 cc] rfl rfl 85 _ E17.out (by kernel_rfl) rfl (by simp [Value.oneCell']) ?_) | fail)
  generalize hW : World.setRow (World.setRow _ _ _) _ _ = W3
  have b23 : Below w2.heap.size w2 W3 := by rw [← hW]; exact below_setRow (below_setRow ((below1 _).alloc (by simp) _) (Nat.le_refl _) _) (by omega) _
  have D3 : Hid (Dw B s n v m u x y LL' L' h' l' (fun b => ((b = gr ∨ b = ga) ∨ b = g7) ∨ (b = w2.heap.size ∨ b = w2.heap.size + 1)) W3) := by
    have e1 := (((DC.out.doc hp).more (.cells #[.int .u32 0, .int .u32 0, .bool false, .int .i64 0, .slice none 0 0, .int .i64 0, .int .i64 0, .slice none 0 0, .slice none 0 0, .bool false] 39)).more (.cells #[.slice none 0 0, .bool false, .int .i64 0] 85))
    have e2 : (w2.alloc (.cells #[.int .u32 0, .int .u32 0, .bool false, .int .i64 0, .slice none 0 0, .int .i64 0, .int .i64 0, .slice none 0 0, .slice none 0 0, .bool false] 39)).heap.size = w2.heap.size + 1 := by simp
    rw [e2] at e1
    have e3 := (e1.row (b := w2.heap.size) (.inl (.inr rfl)) RS).1
    have e4 := (e3.row (b := w2.heap.size + 1) (.inr rfl) #[.slice ya yn yc, .bool an, .int .i64 cc]).1
    unfold Hid
    rw [← hW]
    refine e4.mono fun b hb => ?_
    rcases hb with hb | hb | hb
    · exact .inl (.inl hb)
    · exact .inl (.inr hb)
    · exact .inr hb
  have G16 : Hid (W3.heap[w2.heap.size]? = some (.cells RS 39 (0, 0))) := by unfold Hid; rw [← hW, setRow_other _ _ _ _ (by omega)]; exact setRow_heap _ _ _ _ _ _ (heap_alloc2_old w2 _ _)
  have G17 : Hid (W3.heap[w2.heap.size + 1]? = some (.cells #[.slice ya yn yc, .bool an, .int .i64 cc] 85 (0, 0))) := by unfold Hid; rw [← hW]; exact setRow_heap _ _ _ _ _ _ E17.out
  have bc3 := hp.2.1.trans (b23.mono hp.2.1.size)
  have RD3 := hide1 (hrd.below b23 (Nat.le_refl _))
  have G73 := hide1 ((bc3.block g7 (lt_heap G7C.out)).trans G7C.out)
  have BX3 := hide1 ((bc3.block gr (lt_heap BXC.out)).trans BXC.out)
  have BB3 : Hid (Below B w W3) := BBC.out.trans (bc3.mono DC.out.size)
  have NE2 : Hid (g7 < w2.heap.size ∧ g7 < w2.heap.size + 1) := by have h1 := lt_heap G7C.out; have h2 := hp.2.1.size; unfold Hid; omega
  obtain ⟨g16, hg16⟩ : ∃ g, w2.heap.size = g := ⟨_, rfl⟩
  rw [hg16] at D3 G16 G17 NE2
  try rw [hg16]
  obtain ⟨g17, hg17⟩ : ∃ g, g16 + 1 = g := ⟨_, rfl⟩
  rw [hg17] at D3 G17 NE2
  try rw [hg17]
  clear hW b23 bc3 hp hrd hg16 hg17 kF E17
  go_wp2_with (fail)
  refine (lrecv_any D3.out.lk D3.out.size HX.out HN.out HNN.out t (by have := HT.out; omega)).mono ?_
  rintro e w4 ⟨r, d, z, rfl, hd, hErl, hFl⟩
  rw [← HAN.out] at hd
  rw [← HCC.out] at hErl
  have hd2 := hd.symm
  subst hd2
  obtain ⟨hLk, hLst⟩ := hFl.lkp
  obtain ⟨_, _, _, _, hKp, _⟩ := id hLk
  have RD4 := RD3.out.kp2 hKp fun hn b e hL => by have h1 := RL2.out hn b e; have h2 := (DC.out.lk.flt hL).2; omega
  obtain ⟨v3, m3, u3, D4, hb4, hk4⟩ := D3.out.prog hLk
  rw [← HY.out] at D4
  obtain ⟨ra, rc, hr⟩ := hLst.form
  obtain ⟨rn, hrn⟩ : ∃ rn, (x.recvB t).length = rn := ⟨_, rfl⟩
  rw [hrn] at hr
  subst hr
  have RP4 := hLst.rd
  have HERL := hide1 hErl
  have R4D := hide1 RD4
  have R4P := hide1 RP4
  have D4H := hide1 D4
  have G164 := hide1 ((hk4 g16 (.inr (.inl rfl))).trans G16.out)
  have G174 := hide1 ((hk4 g17 (.inr (.inr rfl))).trans G17.out)
  have G74 := hide1 ((hk4 g7 (.inl (.inr rfl))).trans G73.out)
  have BX4 := hide1 ((hk4 gr (.inl (.inl (.inl rfl)))).trans BX3.out)
  have BB4 : Hid (Below B w w4) := BB3.out.trans hb4
  clear hLk hLst hKp RD4 RP4 hFl hErl D4 hb4 hk4 hrn D3 G16 G17 G73 BX3 BB3 RD3
  go_upto_region 9 with (fail)
  generalize hW : World.alloc w4 _ = W5
  have b45 : Below w4.heap.size w4 W5 := by rw [← hW]; exact below1 _
  have G18 : Hid (W5.heap[w4.heap.size]? = some (.cells #[.slice ra rn rc, .bool an] 59 (0, 0))) := by unfold Hid; rw [← hW]; exact heap_alloc_new w4 _
  have D5 := hide1 (D4H.out.below b45)
  have G16 := hide1 ((b45.block g16 (lt_heap G164.out)).trans G164.out)
  have G17 := hide1 ((b45.block g17 (lt_heap G174.out)).trans G174.out)
  have G75 := hide1 ((b45.block g7 (lt_heap G74.out)).trans G74.out)
  have BX5 := hide1 ((b45.block gr (lt_heap BX4.out)).trans BX4.out)
  have BB5 : Hid (Below B w W5) := BB4.out.trans (b45.mono D4H.out.size)
  have RP5 := hide1 (R4P.out.below b45 (Nat.le_refl _))
  have RD5 := hide1 (R4D.out.below b45 (Nat.le_refl _))
  have ER5 := hide1 (HERL.out.below b45)
  have NE7 : Hid (g7 < g16 ∧ g7 < g17 ∧ g7 < w4.heap.size) := ⟨NE2.out.1, NE2.out.2, lt_heap G74.out⟩
  obtain ⟨g18, hg18⟩ : ∃ g, w4.heap.size = g := ⟨_, rfl⟩
  rw [hg18] at G18 NE7
  try rw [hg18]
  clear hW b45 hg18 D4H G164 G174 G74 BX4 BB4 R4P R4D HERL
  have kT : Hid (∀ X, Below W5.heap.size W5 X → Calls Tryz.prog 28 #[.slice ra rn rc, .slice ya yn yc] X fun e w' => e = .returned (.bool true) ∧ Below X.heap.size X w') := fun X hX => texts_any (RP5.out.below hX (Nat.le_refl _)) (RD5.out.below hX (Nat.le_refl _)) FLEN.out
  have kC : Hid (∀ X, Below W5.heap.size W5 X → Calls Tryz.prog 6 #[z] X fun e w' => e = .returned (.int .i64 cc) ∧ Below X.heap.size X w') := fun X hX => code_erl X cc z (D5.out.below hX).et (ER5.out.below hX)
  refine region_f (F := []) (S := fun X => X.heap[g16]? = some (.cells RS 39 (0, 0)) ∧ X.heap[g17]? = some (.cells #[.slice ya yn yc, .bool an, .int .i64 cc] 85 (0, 0)) ∧ X.heap[g18]? = some (.cells #[.slice ra rn rc, .bool an] 59 (0, 0))) (by kernel_rfl) ⟨G16.out, G17.out, G18.out⟩ (fun hS => ?_)
  have hX : Below W5.heap.size W5 (World.drew W5) := (Below.refl _ _).drew
  refine take_f 0 50 (.agg RS) [20, 21] rfl rfl (by kernel_rfl) (by kernel_rfl) (by kernel_rfl) (by kernel_rfl) (by kernel_rfl) (by kernel_rfl) (fun _ _ _ h => h) rfl (fun w hSw => by exact exec_load_box 39 (.tmp 16) rfl _ rfl 39 _ _ (hSw.1) Tryz.underlying39 rfl SZS.out) hS ?_
  try simp only [List.setIfInBounds_toArray, List.set_cons_zero, List.set_cons_succ]
  refine take_p 1 51 (.pointer (some ⟨g18, 0, none⟩)) rfl rfl (by kernel_rfl) (by kernel_rfl) (by kernel_rfl) (fun _ _ _ h => h) rfl (fun w => by go_simp) ?_
  try simp only [List.setIfInBounds_toArray, List.set_cons_zero, List.set_cons_succ]
  refine take_f 2 52 (.slice ra rn rc) [5, 6, 7, 8, 9, 10, 11, 12, 13, 14, 15, 16, 17, 18, 19, 20, 21] rfl rfl (by kernel_rfl) (by kernel_rfl) (by kernel_rfl) (by kernel_rfl) (by kernel_rfl) (by kernel_rfl) (fun _ _ _ h => h) rfl (fun w hSw => by obtain ⟨h0, h1⟩ := rowbox2 hSw.2.2; go_simp) hS ?_
  try simp only [List.setIfInBounds_toArray, List.set_cons_zero, List.set_cons_succ]
  refine take_p 3 53 (.pointer (some ⟨g17, 0, none⟩)) rfl rfl (by kernel_rfl) (by kernel_rfl) (by kernel_rfl) (fun _ _ _ h => h) rfl (fun w => by go_simp) ?_
  try simp only [List.setIfInBounds_toArray, List.set_cons_zero, List.set_cons_succ]
  refine take_f 4 54 (.slice ya yn yc) [5, 6, 7, 8, 9, 10, 11, 12, 13, 14, 15, 16, 17, 18, 19, 20, 21] rfl rfl (by kernel_rfl) (by kernel_rfl) (by kernel_rfl) (by kernel_rfl) (by kernel_rfl) (by kernel_rfl) (fun _ _ _ h => h) rfl (fun w hSw => by obtain ⟨h0, h1, h2⟩ := rowbox3 hSw.2.1; go_simp) hS ?_
  try simp only [List.setIfInBounds_toArray, List.set_cons_zero, List.set_cons_succ]
  refine ready_f 5 (o := { dst := some 55, op := Op.call { callee := Callee.value (Operand.func 28), args := #[Operand.tmp 52, Operand.tmp 54], argTypes := #[32, 32] }, type := 4, pos := "law.go:59", after := #[{ on := 2, ground := Ground.data }, { on := 4, ground := Ground.data }], guard := none }) (by kernel_rfl) rfl (fun K hK => ?_)
  go_simp
  refine (kT.out _ hX).mono ?_
  rintro e wn ⟨rfl, hbn⟩
  replace hS : wn.heap[g16]? = some (.cells RS 39 (0, 0)) ∧ wn.heap[g17]? = some (.cells #[.slice ya yn yc, .bool an, .int .i64 cc] 85 (0, 0)) ∧ wn.heap[g18]? = some (.cells #[.slice ra rn rc, .bool an] 59 (0, 0)) := ⟨(hbn.block _ (lt_heap hS.1)).trans hS.1, (hbn.block _ (lt_heap hS.2.1)).trans hS.2.1, (hbn.block _ (lt_heap hS.2.2)).trans hS.2.2⟩
  replace hX := hX.trans (hbn.mono hX.size)
  clear hbn
  refine hK.out _ _ (fun _ _ => hS) ?_
  clear hK K
  try simp only [Act.put, List.setIfInBounds_toArray, List.set_cons_zero, List.set_cons_succ]
  refine take_p 6 56 (.bool true) rfl rfl (by kernel_rfl) (by kernel_rfl) (by kernel_rfl) (fun _ _ _ h => h) rfl (fun w => by go_simp) ?_
  try simp only [List.setIfInBounds_toArray, List.set_cons_zero, List.set_cons_succ]
  refine take_p 7 57 (.pointer (some ⟨g18, 1, none⟩)) rfl rfl (by kernel_rfl) (by kernel_rfl) (by kernel_rfl) (fun _ _ _ h => h) rfl (fun w => by go_simp) ?_
  try simp only [List.setIfInBounds_toArray, List.set_cons_zero, List.set_cons_succ]
  refine take_f 8 58 (.bool an) [11, 12, 13, 14, 15, 16, 17, 18, 19, 20, 21] rfl rfl (by kernel_rfl) (by kernel_rfl) (by kernel_rfl) (by kernel_rfl) (by kernel_rfl) (by kernel_rfl) (fun _ _ _ h => h) rfl (fun w hSw => by obtain ⟨h0, h1⟩ := rowbox2 hSw.2.2; go_simp) hS ?_
  try simp only [List.setIfInBounds_toArray, List.set_cons_zero, List.set_cons_succ]
  refine take_p 9 59 (.pointer (some ⟨g17, 1, none⟩)) rfl rfl (by kernel_rfl) (by kernel_rfl) (by kernel_rfl) (fun _ _ _ h => h) rfl (fun w => by go_simp) ?_
  try simp only [List.setIfInBounds_toArray, List.set_cons_zero, List.set_cons_succ]
  refine take_f 10 60 (.bool an) [11, 12, 13, 14, 15, 16, 17, 18, 19, 20, 21] rfl rfl (by kernel_rfl) (by kernel_rfl) (by kernel_rfl) (by kernel_rfl) (by kernel_rfl) (by kernel_rfl) (fun _ _ _ h => h) rfl (fun w hSw => by obtain ⟨h0, h1, h2⟩ := rowbox3 hSw.2.1; go_simp) hS ?_
  try simp only [List.setIfInBounds_toArray, List.set_cons_zero, List.set_cons_succ]
  refine take_p 11 61 (.bool true) rfl rfl (by kernel_rfl) (by kernel_rfl) (by kernel_rfl) (fun _ _ _ h => h) rfl (fun w => by go_simp) ?_
  try simp only [List.setIfInBounds_toArray, List.set_cons_zero, List.set_cons_succ]
  refine take_p 12 62 (.bool true) rfl rfl (by kernel_rfl) (by kernel_rfl) (by kernel_rfl) (fun _ _ _ h => h) rfl (fun w => by go_simp) ?_
  try simp only [List.setIfInBounds_toArray, List.set_cons_zero, List.set_cons_succ]
  refine take_p 13 63 (.bool true) rfl rfl (by kernel_rfl) (by kernel_rfl) (by kernel_rfl) (fun _ _ _ h => h) rfl (fun w => by go_simp) ?_
  try simp only [List.setIfInBounds_toArray, List.set_cons_zero, List.set_cons_succ]
  refine take_p 14 64 (z) rfl rfl (by kernel_rfl) (by kernel_rfl) (by kernel_rfl) (fun _ _ _ h => h) rfl (fun w => by go_simp) ?_
  try simp only [List.setIfInBounds_toArray, List.set_cons_zero, List.set_cons_succ]
  refine take_p 16 66 (.pointer (some ⟨g17, 2, none⟩)) rfl rfl (by kernel_rfl) (by kernel_rfl) (by kernel_rfl) (fun _ _ _ h => h) rfl (fun w => by go_simp) ?_
  try simp only [List.setIfInBounds_toArray, List.set_cons_zero, List.set_cons_succ]
  refine take_f 17 67 (.int .i64 cc) [18, 19, 21] rfl rfl (by kernel_rfl) (by kernel_rfl) (by kernel_rfl) (by kernel_rfl) (by kernel_rfl) (by kernel_rfl) (fun _ _ _ h => h) rfl (fun w hSw => by obtain ⟨h0, h1, h2⟩ := rowbox3 hSw.2.1; go_simp) hS ?_
  try simp only [List.setIfInBounds_toArray, List.set_cons_zero, List.set_cons_succ]
  refine ready_f 15 (o := { dst := some 65, op := Op.call { callee := Callee.value (Operand.func 6), args := #[Operand.tmp 64], argTypes := #[26] }, type := 29, pos := "law.go:59", after := #[{ on := 14, ground := Ground.data }, { on := 13, ground := Ground.chain }, { on := 13, ground := Ground.guard }], guard := some (13, true) }) (by kernel_rfl) rfl (fun K hK => ?_)
  go_simp
  refine (kC.out _ hX).mono ?_
  rintro e wn ⟨rfl, hbn⟩
  replace hS : wn.heap[g16]? = some (.cells RS 39 (0, 0)) ∧ wn.heap[g17]? = some (.cells #[.slice ya yn yc, .bool an, .int .i64 cc] 85 (0, 0)) ∧ wn.heap[g18]? = some (.cells #[.slice ra rn rc, .bool an] 59 (0, 0)) := ⟨(hbn.block _ (lt_heap hS.1)).trans hS.1, (hbn.block _ (lt_heap hS.2.1)).trans hS.2.1, (hbn.block _ (lt_heap hS.2.2)).trans hS.2.2⟩
  replace hX := hX.trans (hbn.mono hX.size)
  clear hbn
  refine hK.out _ _ (fun _ _ => hS) ?_
  clear hK K
  try simp only [Act.put, List.setIfInBounds_toArray, List.set_cons_zero, List.set_cons_succ]
  refine take_p 18 68 (.bool true) rfl rfl (by kernel_rfl) (by kernel_rfl) (by kernel_rfl) (fun _ _ _ h => h) rfl (fun w => by go_simp) ?_
  try simp only [List.setIfInBounds_toArray, List.set_cons_zero, List.set_cons_succ]
  refine take_p 19 69 (.bool true) rfl rfl (by kernel_rfl) (by kernel_rfl) (by kernel_rfl) (fun _ _ _ h => h) rfl (fun w => by go_simp) ?_
  try simp only [List.setIfInBounds_toArray, List.set_cons_zero, List.set_cons_succ]
  have D7 := D5.out.below hX
  have G77 := (hX.block g7 (lt_heap G75.out)).trans G75.out
  have BX7 := hide1 ((hX.block gr (lt_heap BX5.out)).trans BX5.out)
  have BB7 := BB5.out.trans (hX.mono D5.out.size)
  refine ready_f 20 (o := { dst := none, op := Op.store 39 (Operand.tmp 7) (Operand.tmp 50), type := 0, pos := "law.go:59", after := #[{ on := 0, ground := Ground.data }, { on := 15, ground := Ground.chain }, { on := 0, ground := Ground.phase }, { on := 1, ground := Ground.textOnly Departure.lateStores }, { on := 2, ground := Ground.textOnly Departure.lateStores }, { on := 3, ground := Ground.textOnly Departure.lateStores }, { on := 4, ground := Ground.textOnly Departure.lateStores }, { on := 5, ground := Ground.textOnly Departure.lateStoresUnsure }, { on := 6, ground := Ground.textOnly Departure.lateStores }, { on := 7, ground := Ground.textOnly Departure.lateStores }, { on := 8, ground := Ground.textOnly Departure.lateStores }, { on := 9, ground := Ground.textOnly Departure.lateStores }, { on := 10, ground := Ground.textOnly Departure.lateStores }, { on := 11, ground := Ground.textOnly Departure.lateStores }, { on := 12, ground := Ground.textOnly Departure.lateStores }, { on := 13, ground := Ground.textOnly Departure.lateStores }, { on := 14, ground := Ground.textOnly Departure.lateStores }, { on := 15, ground := Ground.textOnly Departure.lateStoresUnsure }, { on := 16, ground := Ground.textOnly Departure.lateStores }, { on := 17, ground := Ground.textOnly Departure.lateStores }, { on := 18, ground := Ground.textOnly Departure.lateStores }, { on := 19, ground := Ground.textOnly Departure.lateStores }], guard := none }) (by kernel_rfl) rfl (fun K hK => ?_)
  rw [if_pos (by rfl)]
  refine wp_store_row 39 _ _ rfl g7 RS rfl rfl 39 _ G77 SZS.out CSX.out ONS.out ?_
  refine hK.out _ _ (fun _ h => ⟨(setRow_other _ _ _ _ (by have := NE7.out; omega)).trans h.1, (setRow_other _ _ _ _ (by have := NE7.out; omega)).trans h.2.1, (setRow_other _ _ _ _ (by have := NE7.out; omega)).trans h.2.2⟩) ?_
  clear hK K
  refine take_p 21 8 (.bool true) rfl rfl (by kernel_rfl) (by kernel_rfl) (by kernel_rfl) (fun _ _ _ h => h) rfl (fun w => by go_simp) ?_
  try simp only [List.setIfInBounds_toArray, List.set_cons_zero, List.set_cons_succ]
  refine done_f (by kernel_rfl) ?_ _
  have D8P := hide1 (D7.row (b := g7) (.inl (.inr rfl)) RS)
  have G78 := hide1 (setRow_heap _ g7 RR RS 39 (0, 0) G77)
  have BX8 := hide1 ((setRow_other _ g7 gr RS (by have := NEQ.out; omega)).trans BX7.out)
  have BB8 := hide1 (BB7.trans D8P.out.2)
  have D8 := hide1 (D8P.out.1.mono (G' := fun b => (b = gr ∨ b = ga) ∨ b = g7) fun b hb => .inl hb)
  have OKY : Hid (y.Ok (N + 16)) := by unfold Hid; rw [HY.out]; exact HX.out.recvX t
  have SUMY : Hid (LL'.length + y.Q.length ≤ M + 1) := by have h1 := HSUM.out; have h2 := HSUM2.out; have h3 := recvX_Q x t; rw [← HY.out] at h3; unfold Hid; omega
  clear D8P D7 hS hX G77 BX7 BB7
  generalize World.setRow _ g7 RS = W8 at D8 G78 BX8 BB8 ⊢
  go_upto_region 19 with (fail)
  have SZX : Hid (Option.map (fun x => x.size) (Tryz.prog.info? 39) = some RS.size) := by rw [HRX.out]; exact sz10 rfl
  have ONX : Hid (RS.all (·.oneCell') = true) := by rw [HRX.out]; exact rcs_one _ D8.out.rf
  have CX : Hid (RR.size = RS.size) := by rw [S10.out, HRX.out]; rfl
  have DYP := hide1 (D8.out.row (b := gr) (.inl (.inl rfl)) RS)
  have BYR := hide1 (setRow_heap W8 gr RR RS 39 (0, 0) BX8.out)
  go_upto_region 20 with (first | (refine wpList_load_row rfl 39 (.tmp 7) rfl g7 rfl 39 RS (0, 0) _ G78.out Tryz.underlying39 rfl SZX.out ?_) | (refine wpList_store_row rfl 39 (.tmp 119) (.tmp 118) rfl gr RS rfl rfl 39 _ BX8.out SZX.out CX.out ONX.out ?_) | fail)
  generalize W8.setRow gr RS = WY at DYP BYR ⊢
  have DY := hide1 DYP.out.1
  have BBY : Hid (Below B w WY) := BB8.out.trans DYP.out.2
  clear DYP
  have H0 := hide1 OKY.out.own0
  have HQ64 := hide1 OKY.out.Q64
  have HA16 := hide1 OKY.out.A16
  have kOwn : Hid (∀ X, Below WY.heap.size WY X → Calls Tryz.prog 14 #[.pointer (some ⟨s, 0, none⟩)] X fun e w' => e = .returned (.int .u32 (y.own : Int)) ∧ Below X.heap.size X w') := fun X hX => (lown_any (DY.out.below hX).lk H0.out).mono (by rintro e w' ⟨rfl, rfl⟩; exact ⟨rfl, Below.refl _ _⟩)
  have kPeer : Hid (∀ X, Below WY.heap.size WY X → Calls Tryz.prog 15 #[.pointer (some ⟨s, 0, none⟩)] X fun e w' => e = .returned (.int .u32 (y.peer : Int)) ∧ Below X.heap.size X w') := fun X hX => (lpeer_any (DY.out.below hX).lk H0.out).mono (by rintro e w' ⟨rfl, rfl⟩; exact ⟨rfl, Below.refl _ _⟩)
  have kReady : Hid (∀ X, Below WY.heap.size WY X → Calls Tryz.prog 16 #[.pointer (some ⟨s, 0, none⟩)] X fun e w' => e = .returned (.bool y.sure) ∧ Below X.heap.size X w') := fun X hX => (lready_any (DY.out.below hX).lk H0.out).mono (by rintro e w' ⟨rfl, rfl⟩; exact ⟨rfl, Below.refl _ _⟩)
  have kRoom : Hid (∀ X, Below WY.heap.size WY X → Calls Tryz.prog 17 #[.pointer (some ⟨s, 0, none⟩)] X fun e w' => e = .returned (.int .i64 (y.room : Int)) ∧ Below X.heap.size X w') := fun X hX => (lroom_any (DY.out.below hX).lk H0.out HQ64.out).mono (by rintro e w' ⟨rfl, rfl⟩; exact ⟨rfl, Below.refl _ _⟩)
  have kWait : Hid (∀ X, Below WY.heap.size WY X → Calls Tryz.prog 18 #[.pointer (some ⟨s, 0, none⟩)] X fun e w' => e = .returned (.int .i64 (y.waiting : Int)) ∧ Below X.heap.size X w') := fun X hX => (lwait_any (DY.out.below hX).lk H0.out HQ64.out HA16.out).mono (by rintro e w' ⟨rfl, rfl⟩; exact ⟨rfl, (Below.refl _ _).drew⟩)
  have rRoom : Hid (∀ X, Below WY.heap.size WY X → Calls Tryz.prog 32 #[.agg RS] X fun e w' => e = .returned (.int .i64 (y.room : Int)) ∧ Below X.heap.size X w') := fun X hX => by
    obtain ⟨la, lc, hl, _⟩ := DY.out.rf.ql
    have k := rroom_any y L' h' la lc X HQ64.out
    rw [← hl] at k
    unfold rv at k
    rw [← HRX.out] at k
    exact k
  have rWait : Hid (∀ X, Below WY.heap.size WY X → Calls Tryz.prog 33 #[.agg RS] X fun e w' => e = .returned (.int .i64 (y.waiting : Int)) ∧ Below X.heap.size X w') := fun X hX => by
    have k := rwaiting_any y LL' L' h' l' X (DY.out.below hX).rf HQ64.out
    unfold rv at k
    rw [← HRX.out] at k
    exact k
  have CLY : Hid (∀ X, Below WY.heap.size WY X → X.cell? ⟨gr, 0, none⟩ = some (.int .u32 (y.own : Int)) ∧ X.cell? ⟨gr, 1, none⟩ = some (.int .u32 (y.peer : Int)) ∧ X.cell? ⟨gr, 2, none⟩ = some (.bool y.sure) ∧ X.heap[gr]? = some (.cells RS 39 (0, 0))) := fun X hX => by
    have e1 := (hX.block gr (lt_heap BYR.out)).trans BYR.out
    have e2 := e1
    rw [HRX.out] at e2
    obtain ⟨⟨c0, c1, c2, _, _⟩, _⟩ := box10 e2
    exact ⟨c0, c1, c2, e1⟩
  have FINQ : Hid (∀ w', Below WY.heap.size WY w' → Q w') := fun w' hw => HQ.out w' y (OKY.out.mono (by omega)) ⟨_, _, _, LL', L', h', l', ⟨((DY.out.below hw).lk).mono (by omega), (DY.out.below hw).rf, (DY.out.below hw).et, (DY.out.below hw).pos, (DY.out.below hw).rl, fun b hb => (DY.out.below hw).bs b (.inl (.inl hb))⟩, by rw [← HRX.out]; exact (hw.block gr (lt_heap BYR.out)).trans BYR.out, SUMY.out⟩ (BBY.out.trans (hw.mono DY.out.size))
  clear SZ ONE CX ONX
  generalize (y.room : Int) = rm at kRoom rRoom
  generalize (y.waiting : Int) = wt at kWait rWait
  refine region_f (F := []) (S := fun X => Below WY.heap.size WY X) (by kernel_rfl) (Below.refl _ _).drew (fun hS => ?_)
  refine take_p 0 120 (.bool true) rfl rfl (by kernel_rfl) (by kernel_rfl) (by kernel_rfl) (fun _ _ _ h => h) rfl (fun w => by go_simp) ?_
  try simp only [List.setIfInBounds_toArray, List.set_cons_zero, List.set_cons_succ]
  refine take_p 1 121 (.bool true) rfl rfl (by kernel_rfl) (by kernel_rfl) (by kernel_rfl) (fun _ _ _ h => h) rfl (fun w => by go_simp) ?_
  try simp only [List.setIfInBounds_toArray, List.set_cons_zero, List.set_cons_succ]
  refine take_p 2 122 (.pointer (some ⟨s, 0, none⟩)) rfl rfl (by kernel_rfl) (by kernel_rfl) (by kernel_rfl) (fun _ _ _ h => h) rfl (fun w => by go_simp) ?_
  try simp only [List.setIfInBounds_toArray, List.set_cons_zero, List.set_cons_succ]
  refine take_p 4 124 (.pointer (some ⟨gr, 0, none⟩)) rfl rfl (by kernel_rfl) (by kernel_rfl) (by kernel_rfl) (fun _ _ _ h => h) rfl (fun w => by go_simp) ?_
  try simp only [List.setIfInBounds_toArray, List.set_cons_zero, List.set_cons_succ]
  refine take_p 5 125 (.pointer (some ⟨gr, 0, none⟩)) rfl rfl (by kernel_rfl) (by kernel_rfl) (by kernel_rfl) (fun _ _ _ h => h) rfl (fun w => by go_simp) ?_
  try simp only [List.setIfInBounds_toArray, List.set_cons_zero, List.set_cons_succ]
  refine take_p 6 126 (.pointer (some ⟨gr, 0, none⟩)) rfl rfl (by kernel_rfl) (by kernel_rfl) (by kernel_rfl) (fun _ _ _ h => h) rfl (fun w => by go_simp) ?_
  try simp only [List.setIfInBounds_toArray, List.set_cons_zero, List.set_cons_succ]
  refine take_f 7 127 (.int .u32 (y.own : Int)) [8, 9, 10, 11, 12, 13, 14, 15, 16, 17, 18, 19, 20, 21, 22, 23, 24, 25, 26, 27, 28, 29, 30, 31, 32, 33, 34, 35, 36, 37, 38, 39, 40, 41, 42, 43, 44, 45, 46] rfl rfl (by kernel_rfl) (by kernel_rfl) (by kernel_rfl) (by kernel_rfl) (by kernel_rfl) (by kernel_rfl) (fun _ _ _ h => h) rfl (fun w hSw => by obtain ⟨h0, h1, h2, h3⟩ := CLY.out _ hSw; go_simp) hS ?_
  try simp only [List.setIfInBounds_toArray, List.set_cons_zero, List.set_cons_succ]
  refine ready_f 3 (o := { dst := some 123, op := Op.call { callee := Callee.value (Operand.func 14), args := #[Operand.tmp 122], argTypes := #[24] }, type := 22, pos := "law.go:62", after := #[{ on := 2, ground := Ground.data }, { on := 1, ground := Ground.chain }, { on := 1, ground := Ground.guard }], guard := some (1, true) }) (by kernel_rfl) rfl (fun K hK => ?_)
  go_simp
  refine (kOwn.out _ hS).mono ?_
  rintro e wn ⟨rfl, hbn⟩
  replace hS := hS.trans (hbn.mono hS.size)
  clear hbn
  refine hK.out _ _ (fun _ _ => hS) ?_
  clear hK K
  try simp only [Act.put, List.setIfInBounds_toArray, List.set_cons_zero, List.set_cons_succ]
  refine take_p 8 128 (.bool true) rfl rfl (by kernel_rfl) (by kernel_rfl) (by kernel_rfl) (fun _ _ _ h => h) rfl (fun w => by go_simp) ?_
  try simp only [List.setIfInBounds_toArray, List.set_cons_zero, List.set_cons_succ]
  refine take_p 9 129 (.bool true) rfl rfl (by kernel_rfl) (by kernel_rfl) (by kernel_rfl) (fun _ _ _ h => h) rfl (fun w => by go_simp) ?_
  try simp only [List.setIfInBounds_toArray, List.set_cons_zero, List.set_cons_succ]
  refine take_p 10 130 (.bool true) rfl rfl (by kernel_rfl) (by kernel_rfl) (by kernel_rfl) (fun _ _ _ h => h) rfl (fun w => by go_simp) ?_
  try simp only [List.setIfInBounds_toArray, List.set_cons_zero, List.set_cons_succ]
  refine take_p 11 131 (.pointer (some ⟨s, 0, none⟩)) rfl rfl (by kernel_rfl) (by kernel_rfl) (by kernel_rfl) (fun _ _ _ h => h) rfl (fun w => by go_simp) ?_
  try simp only [List.setIfInBounds_toArray, List.set_cons_zero, List.set_cons_succ]
  refine take_p 13 133 (.pointer (some ⟨gr, 0, none⟩)) rfl rfl (by kernel_rfl) (by kernel_rfl) (by kernel_rfl) (fun _ _ _ h => h) rfl (fun w => by go_simp) ?_
  try simp only [List.setIfInBounds_toArray, List.set_cons_zero, List.set_cons_succ]
  refine take_p 14 134 (.pointer (some ⟨gr, 0, none⟩)) rfl rfl (by kernel_rfl) (by kernel_rfl) (by kernel_rfl) (fun _ _ _ h => h) rfl (fun w => by go_simp) ?_
  try simp only [List.setIfInBounds_toArray, List.set_cons_zero, List.set_cons_succ]
  refine take_p 15 135 (.pointer (some ⟨gr, 1, none⟩)) rfl rfl (by kernel_rfl) (by kernel_rfl) (by kernel_rfl) (fun _ _ _ h => h) rfl (fun w => by go_simp) ?_
  try simp only [List.setIfInBounds_toArray, List.set_cons_zero, List.set_cons_succ]
  refine take_f 16 136 (.int .u32 (y.peer : Int)) [17, 18, 19, 20, 21, 22, 23, 24, 25, 26, 27, 28, 29, 30, 31, 32, 33, 34, 35, 36, 37, 38, 39, 40, 41, 42, 43, 44, 45, 46] rfl rfl (by kernel_rfl) (by kernel_rfl) (by kernel_rfl) (by kernel_rfl) (by kernel_rfl) (by kernel_rfl) (fun _ _ _ h => h) rfl (fun w hSw => by obtain ⟨h0, h1, h2, h3⟩ := CLY.out _ hSw; go_simp) hS ?_
  try simp only [List.setIfInBounds_toArray, List.set_cons_zero, List.set_cons_succ]
  refine ready_f 12 (o := { dst := some 132, op := Op.call { callee := Callee.value (Operand.func 15), args := #[Operand.tmp 131], argTypes := #[24] }, type := 22, pos := "law.go:62", after := #[{ on := 11, ground := Ground.data }, { on := 10, ground := Ground.chain }, { on := 10, ground := Ground.guard }], guard := some (10, true) }) (by kernel_rfl) rfl (fun K hK => ?_)
  go_simp
  refine (kPeer.out _ hS).mono ?_
  rintro e wn ⟨rfl, hbn⟩
  replace hS := hS.trans (hbn.mono hS.size)
  clear hbn
  refine hK.out _ _ (fun _ _ => hS) ?_
  clear hK K
  try simp only [Act.put, List.setIfInBounds_toArray, List.set_cons_zero, List.set_cons_succ]
  refine take_p 17 137 (.bool true) rfl rfl (by kernel_rfl) (by kernel_rfl) (by kernel_rfl) (fun _ _ _ h => h) rfl (fun w => by go_simp) ?_
  try simp only [List.setIfInBounds_toArray, List.set_cons_zero, List.set_cons_succ]
  refine take_p 18 138 (.bool true) rfl rfl (by kernel_rfl) (by kernel_rfl) (by kernel_rfl) (fun _ _ _ h => h) rfl (fun w => by go_simp) ?_
  try simp only [List.setIfInBounds_toArray, List.set_cons_zero, List.set_cons_succ]
  refine take_p 19 139 (.bool true) rfl rfl (by kernel_rfl) (by kernel_rfl) (by kernel_rfl) (fun _ _ _ h => h) rfl (fun w => by go_simp) ?_
  try simp only [List.setIfInBounds_toArray, List.set_cons_zero, List.set_cons_succ]
  refine take_p 20 140 (.pointer (some ⟨s, 0, none⟩)) rfl rfl (by kernel_rfl) (by kernel_rfl) (by kernel_rfl) (fun _ _ _ h => h) rfl (fun w => by go_simp) ?_
  try simp only [List.setIfInBounds_toArray, List.set_cons_zero, List.set_cons_succ]
  refine take_p 22 142 (.pointer (some ⟨gr, 0, none⟩)) rfl rfl (by kernel_rfl) (by kernel_rfl) (by kernel_rfl) (fun _ _ _ h => h) rfl (fun w => by go_simp) ?_
  try simp only [List.setIfInBounds_toArray, List.set_cons_zero, List.set_cons_succ]
  refine take_p 23 143 (.pointer (some ⟨gr, 0, none⟩)) rfl rfl (by kernel_rfl) (by kernel_rfl) (by kernel_rfl) (fun _ _ _ h => h) rfl (fun w => by go_simp) ?_
  try simp only [List.setIfInBounds_toArray, List.set_cons_zero, List.set_cons_succ]
  refine take_p 24 144 (.pointer (some ⟨gr, 2, none⟩)) rfl rfl (by kernel_rfl) (by kernel_rfl) (by kernel_rfl) (fun _ _ _ h => h) rfl (fun w => by go_simp) ?_
  try simp only [List.setIfInBounds_toArray, List.set_cons_zero, List.set_cons_succ]
  refine take_f 25 145 (.bool y.sure) [26, 27, 28, 29, 30, 31, 32, 33, 34, 35, 36, 37, 38, 39, 40, 41, 42, 43, 44, 45, 46] rfl rfl (by kernel_rfl) (by kernel_rfl) (by kernel_rfl) (by kernel_rfl) (by kernel_rfl) (by kernel_rfl) (fun _ _ _ h => h) rfl (fun w hSw => by obtain ⟨h0, h1, h2, h3⟩ := CLY.out _ hSw; go_simp) hS ?_
  try simp only [List.setIfInBounds_toArray, List.set_cons_zero, List.set_cons_succ]
  refine ready_f 21 (o := { dst := some 141, op := Op.call { callee := Callee.value (Operand.func 16), args := #[Operand.tmp 140], argTypes := #[24] }, type := 4, pos := "law.go:62", after := #[{ on := 20, ground := Ground.data }, { on := 19, ground := Ground.chain }, { on := 19, ground := Ground.guard }], guard := some (19, true) }) (by kernel_rfl) rfl (fun K hK => ?_)
  go_simp
  refine (kReady.out _ hS).mono ?_
  rintro e wn ⟨rfl, hbn⟩
  replace hS := hS.trans (hbn.mono hS.size)
  clear hbn
  refine hK.out _ _ (fun _ _ => hS) ?_
  clear hK K
  try simp only [Act.put, List.setIfInBounds_toArray, List.set_cons_zero, List.set_cons_succ]
  refine take_p 26 146 (.bool true) rfl rfl (by kernel_rfl) (by kernel_rfl) (by kernel_rfl) (fun _ _ _ h => h) rfl (fun w => by go_simp) ?_
  try simp only [List.setIfInBounds_toArray, List.set_cons_zero, List.set_cons_succ]
  refine take_p 27 147 (.bool true) rfl rfl (by kernel_rfl) (by kernel_rfl) (by kernel_rfl) (fun _ _ _ h => h) rfl (fun w => by go_simp) ?_
  try simp only [List.setIfInBounds_toArray, List.set_cons_zero, List.set_cons_succ]
  refine take_p 28 148 (.bool true) rfl rfl (by kernel_rfl) (by kernel_rfl) (by kernel_rfl) (fun _ _ _ h => h) rfl (fun w => by go_simp) ?_
  try simp only [List.setIfInBounds_toArray, List.set_cons_zero, List.set_cons_succ]
  refine take_p 29 149 (.pointer (some ⟨s, 0, none⟩)) rfl rfl (by kernel_rfl) (by kernel_rfl) (by kernel_rfl) (fun _ _ _ h => h) rfl (fun w => by go_simp) ?_
  try simp only [List.setIfInBounds_toArray, List.set_cons_zero, List.set_cons_succ]
  refine take_p 31 151 (.pointer (some ⟨gr, 0, none⟩)) rfl rfl (by kernel_rfl) (by kernel_rfl) (by kernel_rfl) (fun _ _ _ h => h) rfl (fun w => by go_simp) ?_
  try simp only [List.setIfInBounds_toArray, List.set_cons_zero, List.set_cons_succ]
  refine take_p 32 152 (.pointer (some ⟨gr, 0, none⟩)) rfl rfl (by kernel_rfl) (by kernel_rfl) (by kernel_rfl) (fun _ _ _ h => h) rfl (fun w => by go_simp) ?_
  try simp only [List.setIfInBounds_toArray, List.set_cons_zero, List.set_cons_succ]
  refine take_f 33 153 (.agg RS) [34, 35, 36, 37, 38, 39, 40, 41, 42, 43, 44, 45, 46] rfl rfl (by kernel_rfl) (by kernel_rfl) (by kernel_rfl) (by kernel_rfl) (by kernel_rfl) (by kernel_rfl) (fun _ _ _ h => h) rfl (fun w hSw => by exact exec_load_box 39 (.tmp 152) rfl _ rfl 39 _ _ ((CLY.out _ hSw).2.2.2) Tryz.underlying39 rfl SZX.out) hS ?_
  try simp only [List.setIfInBounds_toArray, List.set_cons_zero, List.set_cons_succ]
  refine ready_f 30 (o := { dst := some 150, op := Op.call { callee := Callee.value (Operand.func 17), args := #[Operand.tmp 149], argTypes := #[24] }, type := 3, pos := "law.go:62", after := #[{ on := 29, ground := Ground.data }, { on := 28, ground := Ground.chain }, { on := 28, ground := Ground.guard }], guard := some (28, true) }) (by kernel_rfl) rfl (fun K hK => ?_)
  go_simp
  refine (kRoom.out _ hS).mono ?_
  rintro e wn ⟨rfl, hbn⟩
  replace hS := hS.trans (hbn.mono hS.size)
  clear hbn
  refine hK.out _ _ (fun _ _ => hS) ?_
  clear hK K
  try simp only [Act.put, List.setIfInBounds_toArray, List.set_cons_zero, List.set_cons_succ]
  refine ready_f 34 (o := { dst := some 154, op := Op.call { callee := Callee.value (Operand.func 32), args := #[Operand.tmp 153], argTypes := #[46] }, type := 3, pos := "law.go:62", after := #[{ on := 33, ground := Ground.data }, { on := 30, ground := Ground.chain }, { on := 28, ground := Ground.guard }], guard := some (28, true) }) (by kernel_rfl) rfl (fun K hK => ?_)
  go_simp
  refine (rRoom.out _ hS).mono ?_
  rintro e wn ⟨rfl, hbn⟩
  replace hS := hS.trans (hbn.mono hS.size)
  clear hbn
  refine hK.out _ _ (fun _ _ => hS) ?_
  clear hK K
  try simp only [Act.put, List.setIfInBounds_toArray, List.set_cons_zero, List.set_cons_succ]
  refine take_p 35 155 (.bool true) rfl rfl (by kernel_rfl) (by kernel_rfl) (by kernel_rfl) (fun _ _ _ h => h) rfl (fun w => by go_simp) ?_
  try simp only [List.setIfInBounds_toArray, List.set_cons_zero, List.set_cons_succ]
  refine take_p 36 156 (.bool true) rfl rfl (by kernel_rfl) (by kernel_rfl) (by kernel_rfl) (fun _ _ _ h => h) rfl (fun w => by go_simp) ?_
  try simp only [List.setIfInBounds_toArray, List.set_cons_zero, List.set_cons_succ]
  refine take_p 37 157 (.bool true) rfl rfl (by kernel_rfl) (by kernel_rfl) (by kernel_rfl) (fun _ _ _ h => h) rfl (fun w => by go_simp) ?_
  try simp only [List.setIfInBounds_toArray, List.set_cons_zero, List.set_cons_succ]
  refine take_p 38 158 (.pointer (some ⟨s, 0, none⟩)) rfl rfl (by kernel_rfl) (by kernel_rfl) (by kernel_rfl) (fun _ _ _ h => h) rfl (fun w => by go_simp) ?_
  try simp only [List.setIfInBounds_toArray, List.set_cons_zero, List.set_cons_succ]
  refine take_p 40 160 (.pointer (some ⟨gr, 0, none⟩)) rfl rfl (by kernel_rfl) (by kernel_rfl) (by kernel_rfl) (fun _ _ _ h => h) rfl (fun w => by go_simp) ?_
  try simp only [List.setIfInBounds_toArray, List.set_cons_zero, List.set_cons_succ]
  refine take_p 41 161 (.pointer (some ⟨gr, 0, none⟩)) rfl rfl (by kernel_rfl) (by kernel_rfl) (by kernel_rfl) (fun _ _ _ h => h) rfl (fun w => by go_simp) ?_
  try simp only [List.setIfInBounds_toArray, List.set_cons_zero, List.set_cons_succ]
  refine take_f 42 162 (.agg RS) [43, 44, 45, 46] rfl rfl (by kernel_rfl) (by kernel_rfl) (by kernel_rfl) (by kernel_rfl) (by kernel_rfl) (by kernel_rfl) (fun _ _ _ h => h) rfl (fun w hSw => by exact exec_load_box 39 (.tmp 161) rfl _ rfl 39 _ _ ((CLY.out _ hSw).2.2.2) Tryz.underlying39 rfl SZX.out) hS ?_
  try simp only [List.setIfInBounds_toArray, List.set_cons_zero, List.set_cons_succ]
  refine ready_f 39 (o := { dst := some 159, op := Op.call { callee := Callee.value (Operand.func 18), args := #[Operand.tmp 158], argTypes := #[24] }, type := 3, pos := "law.go:62", after := #[{ on := 38, ground := Ground.data }, { on := 37, ground := Ground.chain }, { on := 37, ground := Ground.guard }], guard := some (37, true) }) (by kernel_rfl) rfl (fun K hK => ?_)
  go_simp
  refine (kWait.out _ hS).mono ?_
  rintro e wn ⟨rfl, hbn⟩
  replace hS := hS.trans (hbn.mono hS.size)
  clear hbn
  refine hK.out _ _ (fun _ _ => hS) ?_
  clear hK K
  try simp only [Act.put, List.setIfInBounds_toArray, List.set_cons_zero, List.set_cons_succ]
  refine ready_f 43 (o := { dst := some 163, op := Op.call { callee := Callee.value (Operand.func 33), args := #[Operand.tmp 162], argTypes := #[46] }, type := 3, pos := "law.go:62", after := #[{ on := 42, ground := Ground.data }, { on := 39, ground := Ground.chain }, { on := 37, ground := Ground.guard }], guard := some (37, true) }) (by kernel_rfl) rfl (fun K hK => ?_)
  go_simp
  refine (rWait.out _ hS).mono ?_
  rintro e wn ⟨rfl, hbn⟩
  replace hS := hS.trans (hbn.mono hS.size)
  clear hbn
  refine hK.out _ _ (fun _ _ => hS) ?_
  clear hK K
  try simp only [Act.put, List.setIfInBounds_toArray, List.set_cons_zero, List.set_cons_succ]
  refine take_p 44 164 (.bool true) rfl rfl (by kernel_rfl) (by kernel_rfl) (by kernel_rfl) (fun _ _ _ h => h) rfl (fun w => by go_simp) ?_
  try simp only [List.setIfInBounds_toArray, List.set_cons_zero, List.set_cons_succ]
  refine take_p 45 165 (.bool true) rfl rfl (by kernel_rfl) (by kernel_rfl) (by kernel_rfl) (fun _ _ _ h => h) rfl (fun w => by go_simp) ?_
  try simp only [List.setIfInBounds_toArray, List.set_cons_zero, List.set_cons_succ]
  refine take_p 46 6 (.bool true) rfl rfl (by kernel_rfl) (by kernel_rfl) (by kernel_rfl) (fun _ _ _ h => h) rfl (fun w => by go_simp) ?_
  try simp only [List.setIfInBounds_toArray, List.set_cons_zero, List.set_cons_succ]
  refine done_f (by kernel_rfl) ?_ _
  have FF := hide1 (FINQ.out _ hS)
  clear hS
  go_wp2
  go_ret
  exact ⟨rfl, FF.out⟩

end Go.Proofs.YtcadlcpccemkbaaGreatDoor
