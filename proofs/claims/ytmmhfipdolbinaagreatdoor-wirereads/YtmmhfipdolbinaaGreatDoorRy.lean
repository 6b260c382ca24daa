/- Words read. -/
import Derived.Test.YtmmhfipdolbinaaGreatDoorMSdRx
namespace Go.Proofs.YtmmhfipdolbinaaGreatDoor
open Go.RowKit
set_option maxRecDepth 100000
attribute [local go_sem] not_any mf_any

def fitsB (wd : Nat) (ws : List Nat) : Bool := ws.all (fun x => decide (x < 2 ^ wd))
theorem fitsB_iff {wd : Nat} {ws : List Nat} : fitsB wd ws = true ↔ FitsW wd ws := by
  unfold fitsB FitsW
  rw [List.all_eq_true]
  exact ⟨fun h x hx => of_decide_eq_true (h x hx), fun h x hx => decide_eq_true (h x hx)⟩

/- what Words answers: the words, the code, how many bytes -/
def bytesW (width : Int) : Nat := (width.toNat + 7) / 8
def wdL (width : Int) (R : List Nat) : List Nat := wordsP (bytesW width) (cntN R) (lstH (8 * bytesW width) R)
def wdC (width most : Int) (R : List Nat) : Int :=
  if width < 1 ∨ 64 < width then 11 else if lstC (mostN most 65536) (8 * bytesW width) R ≠ 0 then lstC (mostN most 65536) (8 * bytesW width) R else if fitsB width.toNat (wdL width R) then 0 else 13
def wdS (width most : Int) (R : List Nat) : Nat :=
  if width < 1 ∨ 64 < width then 0 else if lstC (mostN most 65536) (8 * bytesW width) R ≠ 0 then 0 else 4 + cntN R * bytesW width

def W1Post (ws : List Nat) (sz : Nat) (code : Int) (w : World) (e : Ending) (w' : World) : Prop :=
  ∃ a m c, e = .returned (.tuple #[.slice a m c, .int .i64 (sz : Int), .int .i64 code]) ∧ Shy (code = 0 → Nl w' m a ws ∧ ∀ p, a = some p → w.heap.size ≤ p.block) ∧ Below w.heap.size w w'
theorem w1_no {ws : List Nat} {sz : Nat} {code : Int} {w : World} {e : Ending} {w' : World} (h : e = .returned (.tuple #[.slice none 0 0, .int .i64 (sz : Int), .int .i64 code])) (hc : code ≠ 0) (hb : Below w.heap.size w w') : W1Post ws sz code w e w' :=
  ⟨none, 0, 0, h, ⟨fun h => absurd h hc⟩, hb⟩

theorem words1_width (width : Int) (b1 b2 : Nat) (t : ByteArray) (ws : List Nat) (w : World) (hbx : w.cell? ⟨b1, 0, none⟩ = some (.int .i64 width)) (h : width < 1 ∨ 64 < width) :
    Calls Tryz.prog 51 #[.string t, .pointer (some ⟨b1, 0, none⟩), .pointer (some ⟨b2, 0, none⟩)] w (W1Post ws 0 11 w) := by
  have k0 := fun w => hide1 (isWidth_any width w)
  rw [show (decide (1 ≤ width) && decide (width ≤ 64)) = false by simp; omega] at k0
  go_enter Tryz.func51, Tryz.ntmps51
  go_wp2_with (go_at_call 52; refine (k0 _).out.mono ?_; rintro e w1 ⟨rfl, hw1⟩; cases hw1)
  go_ret3
  exact w1_no rfl (by decide) (Below.refl _ _)


set_option maxHeartbeats 4000000 in
theorem words1_any (wd n : Nat) (most : Int) (b1 b2 : Nat) (t : ByteArray) (w : World) (h1 : 1 ≤ wd) (h2 : wd ≤ 64) (hn : n = (wd + 7) / 8) (hb1 : w.cell? ⟨b1, 0, none⟩ = some (.int .i64 (wd : Int))) (hb2 : w.cell? ⟨b2, 0, none⟩ = some (.int .i64 most)) (ht : t.size ≤ 281474976710656) :
    Calls Tryz.prog 51 #[.string t, .pointer (some ⟨b1, 0, none⟩), .pointer (some ⟨b2, 0, none⟩)] w (W1Post (wdL (wd : Int) (nums t)) (wdS (wd : Int) most (nums t)) (wdC (wd : Int) most (nums t)) w) := by
  have k0 := fun w => hide1 (isWidth_any (wd : Int) w)
  rw [show (decide (1 ≤ (wd : Int)) && decide ((wd : Int) ≤ 64)) = true by simp; omega] at k0
  have k1 := fun w => hide1 (bytesFor_any wd w (by omega))
  rw [← hn] at k1
  have k2 := fun w => hide1 (counted_any (mostN most 65536) (8 * n) t w (by have := mostN_le most 65536; omega) (by omega) ht)
  have eb : bytesW (wd : Int) = n := by rw [bytesW, Int.toNat_natCast, hn]
  have hwI : ¬ ((wd : Int) < 1 ∨ 64 < (wd : Int)) := by omega
  have HK : Hid (∃ (cn : Int) (tv : ByteArray) (code : Int), tv.size ≤ 281474976710656 ∧ (∀ w e w', LPost (mostN most 65536) (8 * n) (nums t) w e w' → e = .returned (.tuple #[.agg #[.int .i64 cn, .string tv], .int .i64 code]) ∧ Below w.heap.size w w') ∧
      (code ≠ 0 → ∀ e w', e = .returned (.tuple #[.slice none 0 0, .int .i64 0, .int .i64 code]) → Below w.heap.size w w' → W1Post (wdL (wd : Int) (nums t)) (wdS (wd : Int) most (nums t)) (wdC (wd : Int) most (nums t)) w e w') ∧
      (code = 0 → ∃ cnt : Nat, cn = (cnt : Int) ∧ cnt ≤ 65536 ∧ tv.size = cnt * n ∧ ∀ Y, Below w.heap.size w Y → ∀ e w', WLPost wd cnt (wordsP n cnt (nums tv)) Y e w' → ∃ (a : Option Addr) (m c : Nat) (cd : Int), e = .returned (.tuple #[.slice a m c, .int .i64 cd]) ∧ Below Y.heap.size Y w' ∧
        ∀ e2 w2, e2 = .returned (.tuple #[.slice a m c, .int .i64 ((4 + tv.size : Nat) : Int), .int .i64 cd]) → Below w'.heap.size w' w2 → W1Post (wdL (wd : Int) (nums t)) (wdS (wd : Int) most (nums t)) (wdC (wd : Int) most (nums t)) w e2 w2)) := by
    by_cases hc : lstC (mostN most 65536) (8 * n) (nums t) = 0
    · have hl := lstH_length hc
      have hm := mostN_le most 65536
      have e7 : (cntN (nums t) * (8 * n) + 7) / 8 = cntN (nums t) * n := by
        rw [show cntN (nums t) * (8 * n) = 8 * (cntN (nums t) * n) by rw [Nat.mul_left_comm]]
        omega
      rw [e7] at hl
      have hsz : (txt (lstH (8 * n) (nums t))).size = cntN (nums t) * n := by rw [txt_size (lstH_lt _ t)]; exact hl.1
      have hL : wdL (wd : Int) (nums t) = wordsP n (cntN (nums t)) (lstH (8 * n) (nums t)) := by rw [wdL, eb]
      have hS : wdS (wd : Int) most (nums t) = 4 + cntN (nums t) * n := by rw [wdS, if_neg hwI, eb, hc, if_neg (by simp)]
      refine ⟨(cntN (nums t) : Nat), txt (lstH (8 * n) (nums t)), 0, ?_, fun w e w' hp => ⟨hp.1 hc, hp.2.2⟩, fun h => absurd rfl h, fun _ => ⟨cntN (nums t), rfl, by omega, hsz, fun Y hY e w' hp => ?_⟩⟩
      · have := nums_length t
        omega
      · rw [nums_txt (lstH_lt _ t), ← hL] at hp
        by_cases hf : FitsW wd (wdL (wd : Int) (nums t))
        · have hC : wdC (wd : Int) most (nums t) = 0 := by rw [wdC, if_neg hwI, eb, hc, if_neg (by simp), Int.toNat_natCast, if_pos (fitsB_iff.2 hf)]
          obtain ⟨a, he, hnl, hfr⟩ := hp.1 hf
          refine ⟨a, _, _, 0, he, hp.2.2, fun e2 w2 he2 hb2 => ?_⟩
          rw [hC, hS]
          rw [hsz] at he2
          exact ⟨a, _, _, he2, ⟨fun _ => ⟨hnl.below hb2 (Nat.le_refl _), fun p hp => Nat.le_trans hY.size (hfr p hp)⟩⟩, (hY.trans (hp.2.2.mono hY.size)).trans (hb2.mono (Nat.le_trans hY.size hp.2.2.size))⟩
        · have hC : wdC (wd : Int) most (nums t) = 13 := by rw [wdC, if_neg hwI, eb, hc, if_neg (by simp), Int.toNat_natCast, if_neg (fun h => hf (fitsB_iff.1 h))]
          refine ⟨none, 0, 0, 13, hp.2.1 hf, hp.2.2, fun e2 w2 he2 hb2 => ?_⟩
          rw [hC, hS]
          rw [hsz] at he2
          exact w1_no he2 (by decide) ((hY.trans (hp.2.2.mono hY.size)).trans (hb2.mono (Nat.le_trans hY.size hp.2.2.size)))
    · refine ⟨0, ⟨#[]⟩, lstC (mostN most 65536) (8 * n) (nums t), by decide, fun w e w' hp => ⟨hp.2.1 hc, hp.2.2⟩, fun _ e w' he hb => ?_, fun h => absurd h hc⟩
      have hC : wdC (wd : Int) most (nums t) = lstC (mostN most 65536) (8 * n) (nums t) := by rw [wdC, if_neg hwI, eb, if_pos hc]
      have hS : wdS (wd : Int) most (nums t) = 0 := by rw [wdS, if_neg hwI, eb, if_pos hc]
      rw [hC, hS]
      exact w1_no he hc hb
  obtain ⟨cn, tv, code, e3, HP0, HNO0, HYES0⟩ := HK.out
  have HP := hide1 HP0
  have HNO : Shy _ := ⟨HNO0⟩
  have HYES : Shy _ := ⟨HYES0⟩
  have kS := fun w => hide1 (size_any cn tv w e3)
  clear HP0 HNO0 HYES0 HK e3
  generalize W1Post (wdL (wd : Int) (nums t)) (wdS (wd : Int) most (nums t)) (wdC (wd : Int) most (nums t)) w = PP at *
  generalize LPost (mostN most 65536) (8 * n) (nums t) = PL at *
  obtain ⟨nb, hnb⟩ : ∃ nb, 8 * n = nb := ⟨_, rfl⟩
  have ewn2 : 8 * (n : Int) = (nb : Int) := by omega
  have ewn : IntKind.i64.wrap (nb : Int) = (nb : Int) := by rw [IntKind.wrap_i64]; omega
  rw [hnb] at k2
  clear hnb
  have LT1 := hide1 (lt_cell hb1)
  have HB1 := hide1 hb1
  have Hwd := hide1 (And.intro h1 (And.intro h2 hn))
  clear eb hwI hn h1 h2
  obtain ⟨mm, emm⟩ : ∃ mm, mostN most 65536 = mm := ⟨_, rfl⟩
  have HMC := hide1 (mostN_cases most 65536)
  rw [emm] at HMC k2
  clear emm
  go_enter Tryz.func51, Tryz.ntmps51
  go_upto_region 3 with (go_at_call 52; refine (k0 _).out.mono ?_; rintro e w1 ⟨rfl, hw1⟩; cases hw1)
  refine region_f (F := [11]) (S := fun w' => w'.cell? ⟨b1, 0, none⟩ = some (.int .i64 (wd : Int)) ∧ w'.cell? ⟨b2, 0, none⟩ = some (.int .i64 most)) (by kernel_rfl) ⟨hb1, hb2⟩ (fun hS => ?_)
  refine take_f 1 15 (.int .i64 most) [2, 6, 7, 8, 9, 11, 12] rfl rfl (by kernel_rfl) (by kernel_rfl) (by kernel_rfl) (by kernel_rfl) (by kernel_rfl) (by kernel_rfl) (fun _ _ _ h => h) rfl (fun w hSw => by have h1 := hSw.2; clear hSw; go_simp) hS ?_
  try simp only [List.setIfInBounds_toArray, List.set_cons_zero, List.set_cons_succ]
  refine take_f 3 17 (.int .i64 (wd : Int)) [4, 5, 6, 7, 8, 9, 11, 12] rfl rfl (by kernel_rfl) (by kernel_rfl) (by kernel_rfl) (by kernel_rfl) (by kernel_rfl) (by kernel_rfl) (fun _ _ _ h => h) rfl (fun w hSw => by have h1 := hSw.1; clear hSw; go_simp) hS ?_
  try simp only [List.setIfInBounds_toArray, List.set_cons_zero, List.set_cons_succ]
  refine take_p 0 14 (.string t) rfl rfl (by kernel_rfl) (by kernel_rfl) (by kernel_rfl) (fun _ _ _ h => h) rfl (fun w => by go_simp) ?_
  try simp only [List.setIfInBounds_toArray, List.set_cons_zero, List.set_cons_succ]
  refine take_p 2 16 (.int .i64 mm) rfl rfl (by kernel_rfl) (by kernel_rfl) (by kernel_rfl) (fun _ _ _ h => h) rfl (fun w => by rcases HMC.out with ⟨hm, em⟩ | ⟨hm, em⟩ <;> (rw [em]; go_simp; try (intro h; omega))) ?_
  try simp only [List.setIfInBounds_toArray, List.set_cons_zero, List.set_cons_succ]
  clear hS
  refine ready2_f 4 10 (o := { dst := some 18, op := Op.call { callee := Callee.value (Operand.func 53), args := #[Operand.tmp 17], argTypes := #[3] }, type := 3, pos := "reader.go:81", after := #[{ on := 3, ground := Ground.data }], guard := none }) (o' := { dst := some 7, op := Op.alloc 88, type := 0, pos := "reader.go:81", after := #[], guard := none }) (by kernel_rfl) rfl rfl (fun K hK => ?_) (fun K hK => ?_)
  · go_simp
    refine (k1 _).out.mono ?_
    rintro e w0 ⟨rfl, hw0⟩
    cases hw0
    refine hK.out _ _ (fun _ h => h) ?_
    clear hK K
    try simp only [Act.put, List.setIfInBounds_toArray, List.set_cons_zero, List.set_cons_succ]
    refine take_p 5 19 (.int .i64 (nb : Int)) rfl rfl (by kernel_rfl) (by kernel_rfl) (by kernel_rfl) (fun _ _ _ h => h) rfl (fun w => by go_simp) ?_
    try simp only [List.setIfInBounds_toArray, List.set_cons_zero, List.set_cons_succ]
    refine ready2_f 6 10 (o := { dst := some 20, op := Op.call { callee := Callee.value (Operand.func 45), args := #[Operand.tmp 14, Operand.tmp 16, Operand.tmp 19], argTypes := #[9, 3, 3] }, type := 89, pos := "reader.go:81", after := #[{ on := 0, ground := Ground.data }, { on := 2, ground := Ground.data }, { on := 5, ground := Ground.data }, { on := 4, ground := Ground.chain }], guard := none }) (o' := { dst := some 7, op := Op.alloc 88, type := 0, pos := "reader.go:81", after := #[], guard := none }) (by kernel_rfl) rfl rfl (fun K hK => ?_) (fun K hK => ?_)
    · go_simp
      refine (k2 _).out.mono ?_
      intro e w1 hP1
      obtain ⟨rfl, hc1⟩ := HP.out _ e w1 hP1
      clear hP1
      refine hK.out _ _ (fun _ h => ⟨(hc1.cell (p := ⟨b1, 0, none⟩) (lt_cell h.1)).trans h.1, (hc1.cell (p := ⟨b2, 0, none⟩) (lt_cell h.2)).trans h.2⟩) ?_
      clear hK K
      try simp only [Act.put, List.setIfInBounds_toArray, List.set_cons_zero, List.set_cons_succ]
      refine take_p 7 13 (.tuple #[.agg #[.int .i64 cn, .string tv], .int .i64 code]) rfl rfl (by kernel_rfl) (by kernel_rfl) (by kernel_rfl) (fun _ _ _ h => h) rfl (fun w => by go_simp) ?_
      try simp only [List.setIfInBounds_toArray, List.set_cons_zero, List.set_cons_succ]
      refine take_p 8 21 (.agg #[.int .i64 cn, .string tv]) rfl rfl (by kernel_rfl) (by kernel_rfl) (by kernel_rfl) (fun _ _ _ h => h) rfl (fun w => by go_simp) ?_
      try simp only [List.setIfInBounds_toArray, List.set_cons_zero, List.set_cons_succ]
      refine take_p 9 22 (.int .i64 code) rfl rfl (by kernel_rfl) (by kernel_rfl) (by kernel_rfl) (fun _ _ _ h => h) rfl (fun w => by go_simp) ?_
      try simp only [List.setIfInBounds_toArray, List.set_cons_zero, List.set_cons_succ]
      refine ready_f 10 (o := { dst := some 7, op := Op.alloc 88, type := 0, pos := "reader.go:81", after := #[], guard := none }) (by kernel_rfl) rfl (fun K hK => ?_)
      go_simp
      refine hK.out _ _ (fun _ h => ⟨(((Below.refl _ _).alloc (Nat.le_refl _) _).cell (p := ⟨b1, 0, none⟩) (lt_cell h.1)).trans h.1, (((Below.refl _ _).alloc (Nat.le_refl _) _).cell (p := ⟨b2, 0, none⟩) (lt_cell h.2)).trans h.2⟩) ?_
      clear hK K
      try simp only [Act.put, List.setIfInBounds_toArray, List.set_cons_zero, List.set_cons_succ]
      have hrowX := (heap_alloc_new w1 (.cells #[.int .i64 0, .string ⟨#[]⟩] 88))
      have hBX := ((Below.refl w.heap.size w).drew.trans hc1).alloc (by simpa using hc1.size) (.cells #[.int .i64 0, .string ⟨#[]⟩] 88)
      have hle : w.heap.size ≤ w1.heap.size := by simpa using hc1.size
      obtain ⟨q0, q1, q2, q3, ql⟩ := box2 hrowX
      refine ready_f 11 (o := { dst := none, op := Op.store 88 (Operand.tmp 7) (Operand.tmp 21), type := 0, pos := "reader.go:81", after := #[{ on := 10, ground := Ground.data }, { on := 8, ground := Ground.data }, { on := 6, ground := Ground.chain }, { on := 0, ground := Ground.phase }, { on := 1, ground := Ground.phase }, { on := 2, ground := Ground.phase }, { on := 3, ground := Ground.phase }, { on := 4, ground := Ground.phase }, { on := 5, ground := Ground.phase }, { on := 6, ground := Ground.phase }, { on := 7, ground := Ground.phase }, { on := 8, ground := Ground.phase }, { on := 9, ground := Ground.textOnly Departure.lateStores }, { on := 10, ground := Ground.phase }], guard := none }) (by kernel_rfl) rfl (fun K hK => ?_)
      go_simp
      refine hK.out _ _ (fun h => absurd (by decide) h) ?_
      clear hK K
      refine take_p 12 8 (.int .i64 code) rfl rfl (by kernel_rfl) (by kernel_rfl) (by kernel_rfl) (fun _ _ _ h => h) rfl (fun w => by go_simp) ?_
      try simp only [List.setIfInBounds_toArray, List.set_cons_zero, List.set_cons_succ]
      refine done_f (by kernel_rfl) ?_ _
      generalize hY : World.alloc w1 _ = Y
      have hyr : Y.heap[w1.heap.size]? = some (.cells #[.int .i64 cn, .string tv] 88 (0, 0)) := by rw [← hY]; exact heap_alloc_new _ _
      have HBY : Hid (Below w.heap.size w Y) := by rw [← hY]; exact ((Below.refl w.heap.size w).drew.trans hc1).alloc (by simpa using hc1.size) _
      have hy1 : Y.cell? ⟨b1, 0, none⟩ = some (.int .i64 (wd : Int)) := (HBY.out.cell (p := ⟨b1, 0, none⟩) LT1.out).trans HB1.out
      obtain ⟨y0, y1, _, _, ly⟩ := box2 hyr
      have HYR := hide1 hyr
      clear hY hrowX hBX q0 q1 q2 q3 ql hyr hc1 k1 k2 hle
      by_cases hcode : code = 0
      · obtain ⟨cnt, ecn, hc6, hsz, HW⟩ := HYES.out hcode
        subst ecn
        subst hcode
        have kW := hide1 (lwords_any wd cnt n tv Y Hwd.out.1 Hwd.out.2.1 Hwd.out.2.2 hc6 hsz)
        have HW' := hide1 (HW Y HBY.out)
        clear HW hsz hc6
        go_wp2_with fail
        refine kW.out.mono ?_
        intro e w5 hP5
        obtain ⟨a, m, c, cd, rfl, hb5, hfin⟩ := HW'.out e w5 hP5
        have HF : Shy _ := ⟨hfin⟩
        obtain ⟨z0, z1, _, _, lz⟩ := box2 ((hb5.block _ (lt_heap HYR.out)).trans HYR.out)
        clear hP5 hfin hb5 y0 y1 kW HW'
        go_wp2_with (go_at_call 47; refine (kS _).out.mono ?_; rintro e w6 ⟨rfl, rfl⟩)
        try go_ret3
        exact HF.out _ _ rfl ((Below.refl _ _).alloc (Nat.le_refl _) _)
      · have hcn : (code != 0) = true := by simpa using hcode
        have hcn2 : (code == 0) = false := by simpa using hcode
        go_wp2
        try go_ret3
        exact HNO.out hcode _ _ rfl HBY.out
    · go_simp
      refine hK.out _ _ (fun _ h => ⟨(((Below.refl _ _).alloc (Nat.le_refl _) _).cell (p := ⟨b1, 0, none⟩) (lt_cell h.1)).trans h.1, (((Below.refl _ _).alloc (Nat.le_refl _) _).cell (p := ⟨b2, 0, none⟩) (lt_cell h.2)).trans h.2⟩) ?_
      clear hK K
      try simp only [Act.put, List.setIfInBounds_toArray, List.set_cons_zero, List.set_cons_succ]
      refine ready_f 6 (o := { dst := some 20, op := Op.call { callee := Callee.value (Operand.func 45), args := #[Operand.tmp 14, Operand.tmp 16, Operand.tmp 19], argTypes := #[9, 3, 3] }, type := 89, pos := "reader.go:81", after := #[{ on := 0, ground := Ground.data }, { on := 2, ground := Ground.data }, { on := 5, ground := Ground.data }, { on := 4, ground := Ground.chain }], guard := none }) (by kernel_rfl) rfl (fun K hK => ?_)
      go_simp
      refine (k2 _).out.mono ?_
      intro e w1 hP1
      obtain ⟨rfl, hc1⟩ := HP.out _ e w1 hP1
      clear hP1
      refine hK.out _ _ (fun _ h => ⟨(hc1.cell (p := ⟨b1, 0, none⟩) (lt_cell h.1)).trans h.1, (hc1.cell (p := ⟨b2, 0, none⟩) (lt_cell h.2)).trans h.2⟩) ?_
      clear hK K
      try simp only [Act.put, List.setIfInBounds_toArray, List.set_cons_zero, List.set_cons_succ]
      refine take_p 7 13 (.tuple #[.agg #[.int .i64 cn, .string tv], .int .i64 code]) rfl rfl (by kernel_rfl) (by kernel_rfl) (by kernel_rfl) (fun _ _ _ h => h) rfl (fun w => by go_simp) ?_
      try simp only [List.setIfInBounds_toArray, List.set_cons_zero, List.set_cons_succ]
      refine take_p 8 21 (.agg #[.int .i64 cn, .string tv]) rfl rfl (by kernel_rfl) (by kernel_rfl) (by kernel_rfl) (fun _ _ _ h => h) rfl (fun w => by go_simp) ?_
      try simp only [List.setIfInBounds_toArray, List.set_cons_zero, List.set_cons_succ]
      refine take_p 9 22 (.int .i64 code) rfl rfl (by kernel_rfl) (by kernel_rfl) (by kernel_rfl) (fun _ _ _ h => h) rfl (fun w => by go_simp) ?_
      try simp only [List.setIfInBounds_toArray, List.set_cons_zero, List.set_cons_succ]
      have hrowX := (hc1.block w.heap.size (by simp [World.drew])).trans (heap_alloc_new w (.cells #[.int .i64 0, .string ⟨#[]⟩] 88))
      have hBX := ((Below.refl w.heap.size w).alloc (Nat.le_refl _) (.cells #[.int .i64 0, .string ⟨#[]⟩] 88)).drew.trans (hc1.mono (by simp [World.drew]))
      have hle : w.heap.size ≤ w.heap.size := Nat.le_refl _
      obtain ⟨q0, q1, q2, q3, ql⟩ := box2 hrowX
      refine ready_f 11 (o := { dst := none, op := Op.store 88 (Operand.tmp 7) (Operand.tmp 21), type := 0, pos := "reader.go:81", after := #[{ on := 10, ground := Ground.data }, { on := 8, ground := Ground.data }, { on := 6, ground := Ground.chain }, { on := 0, ground := Ground.phase }, { on := 1, ground := Ground.phase }, { on := 2, ground := Ground.phase }, { on := 3, ground := Ground.phase }, { on := 4, ground := Ground.phase }, { on := 5, ground := Ground.phase }, { on := 6, ground := Ground.phase }, { on := 7, ground := Ground.phase }, { on := 8, ground := Ground.phase }, { on := 9, ground := Ground.textOnly Departure.lateStores }, { on := 10, ground := Ground.phase }], guard := none }) (by kernel_rfl) rfl (fun K hK => ?_)
      go_simp
      refine hK.out _ _ (fun h => absurd (by decide) h) ?_
      clear hK K
      refine take_p 12 8 (.int .i64 code) rfl rfl (by kernel_rfl) (by kernel_rfl) (by kernel_rfl) (fun _ _ _ h => h) rfl (fun w => by go_simp) ?_
      try simp only [List.setIfInBounds_toArray, List.set_cons_zero, List.set_cons_succ]
      refine done_f (by kernel_rfl) ?_ _
      generalize hY : World.setCell (World.setCell _ _ _) _ _ = Y
      have hyr : Y.heap[w.heap.size]? = some (.cells #[.int .i64 cn, .string tv] 88 (0, 0)) := by rw [← hY]; exact set_box2 hrowX
      have HBY : Hid (Below w.heap.size w Y) := by rw [← hY]; exact (hBX.setCell hle _).setCell hle _
      have hy1 : Y.cell? ⟨b1, 0, none⟩ = some (.int .i64 (wd : Int)) := (HBY.out.cell (p := ⟨b1, 0, none⟩) LT1.out).trans HB1.out
      obtain ⟨y0, y1, _, _, ly⟩ := box2 hyr
      have HYR := hide1 hyr
      clear hY hrowX hBX q0 q1 q2 q3 ql hyr hc1 k1 k2 hle
      by_cases hcode : code = 0
      · obtain ⟨cnt, ecn, hc6, hsz, HW⟩ := HYES.out hcode
        subst ecn
        subst hcode
        have kW := hide1 (lwords_any wd cnt n tv Y Hwd.out.1 Hwd.out.2.1 Hwd.out.2.2 hc6 hsz)
        have HW' := hide1 (HW Y HBY.out)
        clear HW hsz hc6
        go_wp2_with fail
        refine kW.out.mono ?_
        intro e w5 hP5
        obtain ⟨a, m, c, cd, rfl, hb5, hfin⟩ := HW'.out e w5 hP5
        have HF : Shy _ := ⟨hfin⟩
        obtain ⟨z0, z1, _, _, lz⟩ := box2 ((hb5.block _ (lt_heap HYR.out)).trans HYR.out)
        clear hP5 hfin hb5 y0 y1 kW HW'
        go_wp2_with (go_at_call 47; refine (kS _).out.mono ?_; rintro e w6 ⟨rfl, rfl⟩)
        try go_ret3
        exact HF.out _ _ rfl ((Below.refl _ _).alloc (Nat.le_refl _) _)
      · have hcn : (code != 0) = true := by simpa using hcode
        have hcn2 : (code == 0) = false := by simpa using hcode
        go_wp2
        try go_ret3
        exact HNO.out hcode _ _ rfl HBY.out
  · go_simp
    refine hK.out _ _ (fun _ h => ⟨(((Below.refl _ _).alloc (Nat.le_refl _) _).cell (p := ⟨b1, 0, none⟩) (lt_cell h.1)).trans h.1, (((Below.refl _ _).alloc (Nat.le_refl _) _).cell (p := ⟨b2, 0, none⟩) (lt_cell h.2)).trans h.2⟩) ?_
    clear hK K
    try simp only [Act.put, List.setIfInBounds_toArray, List.set_cons_zero, List.set_cons_succ]
    refine ready_f 4 (o := { dst := some 18, op := Op.call { callee := Callee.value (Operand.func 53), args := #[Operand.tmp 17], argTypes := #[3] }, type := 3, pos := "reader.go:81", after := #[{ on := 3, ground := Ground.data }], guard := none }) (by kernel_rfl) rfl (fun K hK => ?_)
    go_simp
    refine (k1 _).out.mono ?_
    rintro e w0 ⟨rfl, hw0⟩
    cases hw0
    refine hK.out _ _ (fun _ h => h) ?_
    clear hK K
    try simp only [Act.put, List.setIfInBounds_toArray, List.set_cons_zero, List.set_cons_succ]
    refine take_p 5 19 (.int .i64 (nb : Int)) rfl rfl (by kernel_rfl) (by kernel_rfl) (by kernel_rfl) (fun _ _ _ h => h) rfl (fun w => by go_simp) ?_
    try simp only [List.setIfInBounds_toArray, List.set_cons_zero, List.set_cons_succ]
    refine ready_f 6 (o := { dst := some 20, op := Op.call { callee := Callee.value (Operand.func 45), args := #[Operand.tmp 14, Operand.tmp 16, Operand.tmp 19], argTypes := #[9, 3, 3] }, type := 89, pos := "reader.go:81", after := #[{ on := 0, ground := Ground.data }, { on := 2, ground := Ground.data }, { on := 5, ground := Ground.data }, { on := 4, ground := Ground.chain }], guard := none }) (by kernel_rfl) rfl (fun K hK => ?_)
    go_simp
    refine (k2 _).out.mono ?_
    intro e w1 hP1
    obtain ⟨rfl, hc1⟩ := HP.out _ e w1 hP1
    clear hP1
    refine hK.out _ _ (fun _ h => ⟨(hc1.cell (p := ⟨b1, 0, none⟩) (lt_cell h.1)).trans h.1, (hc1.cell (p := ⟨b2, 0, none⟩) (lt_cell h.2)).trans h.2⟩) ?_
    clear hK K
    try simp only [Act.put, List.setIfInBounds_toArray, List.set_cons_zero, List.set_cons_succ]
    refine take_p 7 13 (.tuple #[.agg #[.int .i64 cn, .string tv], .int .i64 code]) rfl rfl (by kernel_rfl) (by kernel_rfl) (by kernel_rfl) (fun _ _ _ h => h) rfl (fun w => by go_simp) ?_
    try simp only [List.setIfInBounds_toArray, List.set_cons_zero, List.set_cons_succ]
    refine take_p 8 21 (.agg #[.int .i64 cn, .string tv]) rfl rfl (by kernel_rfl) (by kernel_rfl) (by kernel_rfl) (fun _ _ _ h => h) rfl (fun w => by go_simp) ?_
    try simp only [List.setIfInBounds_toArray, List.set_cons_zero, List.set_cons_succ]
    refine take_p 9 22 (.int .i64 code) rfl rfl (by kernel_rfl) (by kernel_rfl) (by kernel_rfl) (fun _ _ _ h => h) rfl (fun w => by go_simp) ?_
    try simp only [List.setIfInBounds_toArray, List.set_cons_zero, List.set_cons_succ]
    have hrowX := (hc1.block w.heap.size (by simp [World.drew])).trans (heap_alloc_new w (.cells #[.int .i64 0, .string ⟨#[]⟩] 88))
    have hBX := ((Below.refl w.heap.size w).alloc (Nat.le_refl _) (.cells #[.int .i64 0, .string ⟨#[]⟩] 88)).drew.trans (hc1.mono (by simp [World.drew]))
    have hle : w.heap.size ≤ w.heap.size := Nat.le_refl _
    obtain ⟨q0, q1, q2, q3, ql⟩ := box2 hrowX
    refine ready_f 11 (o := { dst := none, op := Op.store 88 (Operand.tmp 7) (Operand.tmp 21), type := 0, pos := "reader.go:81", after := #[{ on := 10, ground := Ground.data }, { on := 8, ground := Ground.data }, { on := 6, ground := Ground.chain }, { on := 0, ground := Ground.phase }, { on := 1, ground := Ground.phase }, { on := 2, ground := Ground.phase }, { on := 3, ground := Ground.phase }, { on := 4, ground := Ground.phase }, { on := 5, ground := Ground.phase }, { on := 6, ground := Ground.phase }, { on := 7, ground := Ground.phase }, { on := 8, ground := Ground.phase }, { on := 9, ground := Ground.textOnly Departure.lateStores }, { on := 10, ground := Ground.phase }], guard := none }) (by kernel_rfl) rfl (fun K hK => ?_)
    go_simp
    refine hK.out _ _ (fun h => absurd (by decide) h) ?_
    clear hK K
    refine take_p 12 8 (.int .i64 code) rfl rfl (by kernel_rfl) (by kernel_rfl) (by kernel_rfl) (fun _ _ _ h => h) rfl (fun w => by go_simp) ?_
    try simp only [List.setIfInBounds_toArray, List.set_cons_zero, List.set_cons_succ]
    refine done_f (by kernel_rfl) ?_ _
    generalize hY : World.setCell (World.setCell _ _ _) _ _ = Y
    have hyr : Y.heap[w.heap.size]? = some (.cells #[.int .i64 cn, .string tv] 88 (0, 0)) := by rw [← hY]; exact set_box2 hrowX
    have HBY : Hid (Below w.heap.size w Y) := by rw [← hY]; exact (hBX.setCell hle _).setCell hle _
    have hy1 : Y.cell? ⟨b1, 0, none⟩ = some (.int .i64 (wd : Int)) := (HBY.out.cell (p := ⟨b1, 0, none⟩) LT1.out).trans HB1.out
    obtain ⟨y0, y1, _, _, ly⟩ := box2 hyr
    have HYR := hide1 hyr
    clear hY hrowX hBX q0 q1 q2 q3 ql hyr hc1 k1 k2 hle
    by_cases hcode : code = 0
    · obtain ⟨cnt, ecn, hc6, hsz, HW⟩ := HYES.out hcode
      subst ecn
      subst hcode
      have kW := hide1 (lwords_any wd cnt n tv Y Hwd.out.1 Hwd.out.2.1 Hwd.out.2.2 hc6 hsz)
      have HW' := hide1 (HW Y HBY.out)
      clear HW hsz hc6
      go_wp2_with fail
      refine kW.out.mono ?_
      intro e w5 hP5
      obtain ⟨a, m, c, cd, rfl, hb5, hfin⟩ := HW'.out e w5 hP5
      have HF : Shy _ := ⟨hfin⟩
      obtain ⟨z0, z1, _, _, lz⟩ := box2 ((hb5.block _ (lt_heap HYR.out)).trans HYR.out)
      clear hP5 hfin hb5 y0 y1 kW HW'
      go_wp2_with (go_at_call 47; refine (kS _).out.mono ?_; rintro e w6 ⟨rfl, rfl⟩)
      try go_ret3
      exact HF.out _ _ rfl ((Below.refl _ _).alloc (Nat.le_refl _) _)
    · have hcn : (code != 0) = true := by simpa using hcode
      have hcn2 : (code == 0) = false := by simpa using hcode
      go_wp2
      try go_ret3
      exact HNO.out hcode _ _ rfl HBY.out

end Go.Proofs.YtmmhfipdolbinaaGreatDoor
