/- Match. -/
import Derived.Test.YtpigbhmamaghgaaOn
namespace Go.Proofs.Ytpigbhmamaghgaa
open Go.RowKit Pg
set_option maxRecDepth 100000
attribute [local go_sem] not_any

/- do keys match? -/
def pk (d0 d1 : Nat) (fz fo : Nat → List Nat) (i : Nat) : List Nat := if bt d0 d1 (i : Int) then fo i else fz i
def mt (d0 d1 : Nat) (fk fz fo : Nat → List Nat) : Bool := (List.range 128).all fun i => decide (fk i = pk d0 d1 fz fo i)
theorem mt_iff {d0 d1 : Nat} {fk fz fo : Nat → List Nat} : mt d0 d1 fk fz fo = true ↔ ∀ i, i < 128 → fk i = pk d0 d1 fz fo i := by
  unfold mt
  rw [List.all_eq_true]
  exact ⟨fun h i hi => of_decide_eq_true (h i (List.mem_range.2 hi)), fun h i hi => decide_eq_true (h i (List.mem_range.1 hi))⟩
theorem mt_not {d0 d1 : Nat} {fk fz fo : Nat → List Nat} (h : ¬ ∀ i, i < 128 → fk i = pk d0 d1 fz fo i) : mt d0 d1 fk fz fo = false := by
  cases e : mt d0 d1 fk fz fo
  · rfl
  · exact absurd (mt_iff.1 e) h
structure Gs (f : Nat → List Nat) : Prop where
  len : ∀ i, (f i).length = 32
  lt : ∀ i, Lt 256 (f i)

theorem match_none (w : World) (Z O : Value) (_hZ : Z.oneCell' = true) (_hO : O.oneCell' = true) :
    Calls Try.prog 11 #[.agg #[.int .u64 0, .int .u64 0, .slice none 0 0], .agg #[Z, O]] w fun e w' => e = .returned (.bool false) ∧ Below w.heap.size w w' := by
  have hB := fun (o o' : Obj) => hide1 (((Below.refl w.heap.size w).alloc (Nat.le_refl _) o).alloc (by simp) o')
  go_enter Try.func11, Try.ntmps11
  go_wp2
  go_ret
  exact ⟨rfl, (hB _ _).out⟩

set_option maxHeartbeats 4000000 in
theorem match_any (d0 d1 : Nat) (w : World) (K Z O : Value) (fk fz fo : Nat → List Nat) (hK : Sds w K fk 128) (hZ : Sds w Z fz 128) (hO : Sds w O fo 128) (gk : Gs fk) (gz : Gs fz) (go : Gs fo) (h0 : d0 < 18446744073709551616) (h1 : d1 < 18446744073709551616) :
    Calls Try.prog 11 #[.agg #[.int .u64 (d0 : Int), .int .u64 (d1 : Int), K], .agg #[Z, O]] w fun e w' => e = .returned (.bool (mt d0 d1 fk fz fo)) ∧ Below w.heap.size w w' := by
  obtain ⟨gK, cK, rfl, lK, rK⟩ := hK.at'
  obtain ⟨gZ, cZ, rfl, lZ, rZ⟩ := hZ.at'
  obtain ⟨gO, cO, rfl, lO, rO⟩ := hO.at'
  have HRK : Hid (∀ W', Below w.heap.size w W' → ∀ i, i < 128 → W'.rangeAt gK (i * 32) (u8s (fk i))) := fun W' h i hi j u hu => (h.cell (p := ⟨gK, i * 32 + j, none⟩) lK).trans (rK i hi j u hu)
  have HRZ : Hid (∀ W', Below w.heap.size w W' → ∀ i, i < 128 → W'.rangeAt gZ (i * 32) (u8s (fz i))) := fun W' h i hi j u hu => (h.cell (p := ⟨gZ, i * 32 + j, none⟩) lZ).trans (rZ i hi j u hu)
  have HRO : Hid (∀ W', Below w.heap.size w W' → ∀ i, i < 128 → W'.rangeAt gO (i * 32) (u8s (fo i))) := fun W' h i hi j u hu => (h.cell (p := ⟨gO, i * 32 + j, none⟩) lO).trans (rO i hi j u hu)
  have GK : Shy (Gs fk) := ⟨gk⟩
  have GZ : Shy (Gs fz) := ⟨gz⟩
  have GO : Shy (Gs fo) := ⟨go⟩
  have H0 := hide1 h0
  have H1 := hide1 h1
  have t0 : ((128 : Int) != 128) = false := by decide
  clear hK hZ hO rK rZ rO lK lZ lO gk gz go h0 h1
  go_enter Try.func11, Try.ntmps11
  go_upto_region 1 with (fail)
  generalize hW : World.alloc (World.alloc w _) _ = W
  have x1 : W.heap[w.heap.size]? = some (.cells #[.int .u64 (d0 : Int), .int .u64 (d1 : Int), .slice (some ⟨gK, 0, none⟩) 128 cK] 29 (0, 0)) := by rw [← hW]; exact heap_alloc2_old _ _ _
  have x2 : W.heap[w.heap.size + 1]? = some (.cells #[.slice (some ⟨gZ, 0, none⟩) 128 cZ, .slice (some ⟨gO, 0, none⟩) 128 cO] 31 (0, 0)) := by rw [← hW]; exact heap_alloc2_new _ _ _
  have x3 : Below w.heap.size w W := by rw [← hW]; exact ((Below.refl _ _).alloc (Nat.le_refl _) _).alloc (by simp) _
  have D1 : Hid (∀ W', Below W.heap.size W W' → W'.cell? ⟨w.heap.size, 0, none⟩ = some (.int .u64 (d0 : Int)) ∧ W'.cell? ⟨w.heap.size, 1, none⟩ = some (.int .u64 (d1 : Int)) ∧ W'.cell? ⟨w.heap.size, 2, none⟩ = some (.slice (some ⟨gK, 0, none⟩) 128 cK)) := fun W' h => by
    have e := (h.block _ (lt_heap x1)).trans x1
    refine ⟨?_, ?_, ?_⟩ <;> (rw [cell_of_row W' _ _ _ _ _ e]; rfl)
  have D2 : Hid (∀ W', Below W.heap.size W W' → W'.cell? ⟨w.heap.size + 1, 0, none⟩ = some (.slice (some ⟨gZ, 0, none⟩) 128 cZ) ∧ W'.cell? ⟨w.heap.size + 1, 1, none⟩ = some (.slice (some ⟨gO, 0, none⟩) 128 cO)) := fun W' h => by
    have e := (h.block _ (lt_heap x2)).trans x2
    refine ⟨?_, ?_⟩ <;> (rw [cell_of_row W' _ _ _ _ _ e]; rfl)
  have X3 := hide1 x3
  clear hW x1 x2 x3
  obtain ⟨_, _, e2⟩ := D1.out W (Below.refl _ _)
  obtain ⟨e3, e4⟩ := D2.out W (Below.refl _ _)
  go_wp2
  clear e2 e3 e4
  go_loopw [26] (fun i wr => ∃ k : Nat, k ≤ 128 ∧ i = .int .i64 k ∧ (∀ j, j < k → fk j = pk d0 d1 fz fo j) ∧ Below W.heap.size W wr) (fun i _ => 128 - (intOf i).toNat)
  case atStart => exact ⟨0, Nat.zero_le _, rfl, fun j hj => by omega, Below.refl _ _⟩
  case round =>
    obtain ⟨k, hk, rfl, hE, hB⟩ := hrel
    have HE := hide1 hE
    have HB := hide1 hB
    clear hE hB
    by_cases hlt : k < 128
    · have bk2 : (k : Int) < 128 := by omega
      have hBw := X3.out.trans (HB.out.mono X3.out.size)
      have R0 := hide1 (HRK.out wr hBw k hlt)
      obtain ⟨t, ht⟩ : ∃ t, t = bt d0 d1 (k : Int) := ⟨_, rfl⟩
      have kb : ∀ w, Hid (Calls Try.prog 16 #[.agg #[.int .u64 (d0 : Int), .int .u64 (d1 : Int)], .int .i64 (k : Int)] w fun e w' => e = .returned (.bool t) ∧ Below w.heap.size w w') := fun w => by rw [ht]; exact bit_any d0 d1 (k : Int) w H0.out H1.out
      obtain ⟨sk, hsk⟩ : ∃ sk, sk = fk k := ⟨_, rfl⟩
      obtain ⟨sz, hszz⟩ : ∃ sz, sz = fz k := ⟨_, rfl⟩
      obtain ⟨so, hso⟩ : ∃ so, so = fo k := ⟨_, rfl⟩
      obtain ⟨sc, hsc⟩ : ∃ sc, sc = if t then so else sz := ⟨_, rfl⟩
      have lk : sk.length = 32 := by rw [hsk]; exact GK.out.len k
      have lz : sz.length = 32 := by rw [hszz]; exact GZ.out.len k
      have lo : so.length = 32 := by rw [hso]; exact GO.out.len k
      have kc : ∀ w, Hid (Calls Try.prog 24 #[.bool t, .agg (u8s sz).toArray, .agg (u8s so).toArray] w fun e w' => e = .returned (.agg (u8s sc).toArray) ∧ Below w.heap.size w w') := fun w => by rw [hsc]; exact chosen_any t sz so w lz lo
      have tsk : Lt 256 sk := by rw [hsk]; exact GK.out.lt k
      have tsc : Lt 256 sc := by
        rw [hsc]
        split
        · rw [hso]; exact GO.out.lt k
        · rw [hszz]; exact GZ.out.lt k
      have lc : sc.length = 32 := by rw [hsc]; split <;> assumption
      obtain ⟨q, hq⟩ : ∃ q, q = decide (sk = sc) := ⟨_, rfl⟩
      have heq := fun w => eq_seeds lk lc tsk tsc w
      rw [← hq] at heq
      have HPK : Hid (pk d0 d1 fz fo k = sc) := by rw [hsc, ht, hso, hszz]; rfl
      have hik : (Try.prog.info? 23).map (·.size) = some (u8s sk).toArray.size := hi23 lk
      have hik' := hi23' lk
      have hiz := hi23' lz
      have hio := hi23' lo
      rw [← hsk] at R0
      have HSK := hide1 hsk
      have HQ := hide1 hq
      have hzr : Hid ((u8s (zeros 32)).toArray.size = (u8s sk).toArray.size) := by simp [Hid, u8s_length, lk, zeros_length]
      have H1c : Hid ((u8s sk).toArray.all (·.oneCell') = true) := all_one (u8s_one _)
      have RZ0 := hide1 (fun W' (h : Below wr.heap.size wr W') => HRZ.out W' (hBw.trans (h.mono hBw.size)) k hlt)
      have RO0 := hide1 (fun W' (h : Below wr.heap.size wr W') => HRO.out W' (hBw.trans (h.mono hBw.size)) k hlt)
      rw [← hszz] at RZ0
      rw [← hso] at RO0
      clear ht hsk hszz hso hsc hq lk lz lo tsk tsc lc hBw
      go_upto_region 6 with (first | (refine wpList_load_mid rfl 23 (.tmp 29) rfl gK (k * 32) rfl (u8s sk) _ R0.out Try.underlying23 rfl hik' ?_) | (refine wpList_store_own rfl 23 (.tmp 6) (.tmp 30) rfl wr.heap.size rfl (u8s sk).toArray rfl 23 _ (heap_alloc_new wr (row8 23 (zeros 32))) hik hzr.out H1c.out ?_) | fail)
      generalize hZW : World.setRow _ _ _ = Z
      have z1 : Z.heap[wr.heap.size]? = some (.cells (u8s sk).toArray 23 (0, 0)) := by rw [← hZW]; exact setRow_heap _ _ _ _ 23 _ (heap_alloc_new wr (row8 23 (zeros 32)))
      have z2 : Below wr.heap.size wr Z := by rw [← hZW]; exact Below.setRow' ((Below.refl _ _).alloc (Nat.le_refl _) _) (Nat.le_refl _) _
      obtain ⟨b6, hb6⟩ : ∃ b6, b6 = wr.heap.size := ⟨_, rfl⟩
      rw [← hb6] at z1 ⊢
      have BZ := hide1 (HB.out.trans (z2.mono HB.out.size))
      have R6 : Hid (∀ W', Below Z.heap.size Z W' → W'.heap[b6]? = some (.cells (u8s sk).toArray 23 (0, 0))) := fun W' h => (h.block _ (lt_heap z1)).trans z1
      have C1 := hide1 (fun W' (h : Below Z.heap.size Z W') => D1.out W' (BZ.out.trans (h.mono BZ.out.size)))
      have C2 := hide1 (fun W' (h : Below Z.heap.size Z W') => D2.out W' (BZ.out.trans (h.mono BZ.out.size)))
      have RZ := hide1 (fun W' (h : Below Z.heap.size Z W') => RZ0.out W' (z2.trans (h.mono z2.size)))
      have RO := hide1 (fun W' (h : Below Z.heap.size Z W') => RO0.out W' (z2.trans (h.mono z2.size)))
      clear hZW z1 z2 hb6 RZ0 RO0 R0 hik' hzr H1c
      refine region_f (F := []) (S := fun W' => Below Z.heap.size Z W') (by kernel_rfl) (Below.refl _ _).drew (fun hS => ?_)
      refine take_f 0 31 (.agg (u8s sk).toArray) [16] rfl rfl (by kernel_rfl) (by kernel_rfl) (by kernel_rfl) (by kernel_rfl) (by kernel_rfl) (by kernel_rfl) (fun _ _ _ h => h) rfl (fun w hSw => by exact exec_load_row 23 (.tmp 6) rfl b6 rfl 23 (u8s sk).toArray _ _ (R6.out _ hSw) Try.underlying23 hik) hS ?_
      try simp only [List.setIfInBounds_toArray, List.set_cons_zero, List.set_cons_succ]
      refine take_p 1 32 (.pointer (some ⟨w.heap.size, 0, none⟩)) rfl rfl (by kernel_rfl) (by kernel_rfl) (by kernel_rfl) (fun _ _ _ h => h) rfl (fun w => by go_simp) ?_
      try simp only [List.setIfInBounds_toArray, List.set_cons_zero, List.set_cons_succ]
      refine take_f 2 33 (.agg #[.int .u64 (d0 : Int), .int .u64 (d1 : Int)]) [4, 15, 16] rfl rfl (by kernel_rfl) (by kernel_rfl) (by kernel_rfl) (by kernel_rfl) (by kernel_rfl) (by kernel_rfl) (fun _ _ _ h => h) rfl (fun w hSw => by obtain ⟨h1, h2, _⟩ := C1.out _ hSw; go_simp) hS ?_
      try simp only [List.setIfInBounds_toArray, List.set_cons_zero, List.set_cons_succ]
      refine take_p 3 34 (.int .i64 (k : Int)) rfl rfl (by kernel_rfl) (by kernel_rfl) (by kernel_rfl) (fun _ _ _ h => h) rfl (fun w => by go_simp) ?_
      try simp only [List.setIfInBounds_toArray, List.set_cons_zero, List.set_cons_succ]
      refine take_p 5 36 (.pointer (some ⟨w.heap.size + 1, 0, none⟩)) rfl rfl (by kernel_rfl) (by kernel_rfl) (by kernel_rfl) (fun _ _ _ h => h) rfl (fun w => by go_simp) ?_
      try simp only [List.setIfInBounds_toArray, List.set_cons_zero, List.set_cons_succ]
      refine take_f 6 37 (.slice (some ⟨gZ, 0, none⟩) 128 cZ) [8, 9, 15, 16] rfl rfl (by kernel_rfl) (by kernel_rfl) (by kernel_rfl) (by kernel_rfl) (by kernel_rfl) (by kernel_rfl) (fun _ _ _ h => h) rfl (fun w hSw => by have h1 := (C2.out _ hSw).1; go_simp) hS ?_
      try simp only [List.setIfInBounds_toArray, List.set_cons_zero, List.set_cons_succ]
      refine take_p 7 38 (.int .i64 (k : Int)) rfl rfl (by kernel_rfl) (by kernel_rfl) (by kernel_rfl) (fun _ _ _ h => h) rfl (fun w => by go_simp) ?_
      try simp only [List.setIfInBounds_toArray, List.set_cons_zero, List.set_cons_succ]
      refine take_p 8 39 (.pointer (some ⟨gZ, k * 32, none⟩)) rfl rfl (by kernel_rfl) (by kernel_rfl) (by kernel_rfl) (fun _ _ _ h => h) rfl (fun w => by go_simp) ?_
      try simp only [List.setIfInBounds_toArray, List.set_cons_zero, List.set_cons_succ]
      refine take_f 9 40 (.agg (u8s sz).toArray) [15, 16] rfl rfl (by kernel_rfl) (by kernel_rfl) (by kernel_rfl) (by kernel_rfl) (by kernel_rfl) (by kernel_rfl) (fun _ _ _ h => h) rfl (fun w hSw => by exact exec_load_mid 23 (.tmp 39) rfl _ _ rfl (u8s sz) _ (RZ.out _ hSw) Try.underlying23 rfl hiz) hS ?_
      try simp only [List.setIfInBounds_toArray, List.set_cons_zero, List.set_cons_succ]
      refine take_p 10 41 (.pointer (some ⟨w.heap.size + 1, 1, none⟩)) rfl rfl (by kernel_rfl) (by kernel_rfl) (by kernel_rfl) (fun _ _ _ h => h) rfl (fun w => by go_simp) ?_
      try simp only [List.setIfInBounds_toArray, List.set_cons_zero, List.set_cons_succ]
      refine take_f 11 42 (.slice (some ⟨gO, 0, none⟩) 128 cO) [13, 14, 15, 16] rfl rfl (by kernel_rfl) (by kernel_rfl) (by kernel_rfl) (by kernel_rfl) (by kernel_rfl) (by kernel_rfl) (fun _ _ _ h => h) rfl (fun w hSw => by have h1 := (C2.out _ hSw).2; go_simp) hS ?_
      try simp only [List.setIfInBounds_toArray, List.set_cons_zero, List.set_cons_succ]
      refine take_p 12 43 (.int .i64 (k : Int)) rfl rfl (by kernel_rfl) (by kernel_rfl) (by kernel_rfl) (fun _ _ _ h => h) rfl (fun w => by go_simp) ?_
      try simp only [List.setIfInBounds_toArray, List.set_cons_zero, List.set_cons_succ]
      refine take_p 13 44 (.pointer (some ⟨gO, k * 32, none⟩)) rfl rfl (by kernel_rfl) (by kernel_rfl) (by kernel_rfl) (fun _ _ _ h => h) rfl (fun w => by go_simp) ?_
      try simp only [List.setIfInBounds_toArray, List.set_cons_zero, List.set_cons_succ]
      refine take_f 14 45 (.agg (u8s so).toArray) [15, 16] rfl rfl (by kernel_rfl) (by kernel_rfl) (by kernel_rfl) (by kernel_rfl) (by kernel_rfl) (by kernel_rfl) (fun _ _ _ h => h) rfl (fun w hSw => by exact exec_load_mid 23 (.tmp 44) rfl _ _ rfl (u8s so) _ (RO.out _ hSw) Try.underlying23 rfl hio) hS ?_
      try simp only [List.setIfInBounds_toArray, List.set_cons_zero, List.set_cons_succ]
      refine ready_f 4 (o := { dst := some 35, op := Op.call { callee := Callee.value (Operand.func 16), args := #[Operand.tmp 33, Operand.tmp 34], argTypes := #[26, 3] }, type := 4, pos := "baseot.go:55", after := #[{ on := 2, ground := Ground.data }, { on := 3, ground := Ground.data }], guard := none }) (by kernel_rfl) rfl (fun K hK => ?_)
      go_simp
      refine (kb _).out.mono ?_
      rintro e w1 ⟨rfl, hb1⟩
      have hS1 := hS.trans (hb1.mono hS.size)
      refine hK.out _ _ (fun _ _ => hS1) ?_
      clear hK K
      try simp only [Act.put, List.setIfInBounds_toArray, List.set_cons_zero, List.set_cons_succ]
      refine ready_f 15 (o := { dst := some 46, op := Op.call { callee := Callee.value (Operand.func 24), args := #[Operand.tmp 35, Operand.tmp 40, Operand.tmp 45], argTypes := #[4, 23, 23] }, type := 23, pos := "baseot.go:55", after := #[{ on := 4, ground := Ground.data }, { on := 9, ground := Ground.data }, { on := 14, ground := Ground.data }, { on := 4, ground := Ground.chain }], guard := none }) (by kernel_rfl) rfl (fun K hK => ?_)
      go_simp
      refine (kc _).out.mono ?_
      rintro e w2 ⟨rfl, hb2⟩
      have hS2 := hS1.trans (hb2.mono hS1.size)
      refine hK.out _ _ (fun _ _ => hS2) ?_
      clear hK K
      try simp only [Act.put, List.setIfInBounds_toArray, List.set_cons_zero, List.set_cons_succ]
      refine take_p 16 47 (.bool (!q)) rfl rfl (by kernel_rfl) (by kernel_rfl) (by kernel_rfl) (fun _ _ _ h => h) rfl (fun w => by exact exec_neq_seed (.tmp 31) (.tmp 46) 23 rfl rfl rfl (heq w)) ?_
      try simp only [List.setIfInBounds_toArray, List.set_cons_zero, List.set_cons_succ]
      refine done_f (by kernel_rfl) ?_ _
      have HS2 := hide1 (BZ.out.trans (hS2.mono BZ.out.size))
      clear hS hS1 hS2 kb kc heq
      cases q
      · have HN : Hid (mt d0 d1 fk fz fo = false) := mt_not (fun h => by
          have h9 := h k hlt
          rw [HPK.out, ← HSK.out] at h9
          have := HQ.out
          rw [decide_eq_true h9] at this
          cases this)
        go_wp2
        go_ret
        rw [HN.out]
        exact ⟨rfl, X3.out.trans (HS2.out.mono X3.out.size)⟩
      · go_wp2
        go_roundw
        case rel => exact ⟨k + 1, by omega, by go_num, fun j hj => by
          by_cases e : j = k
          · rw [e, HPK.out, ← HSK.out]
            exact of_decide_eq_true HQ.out.symm
          · exact HE.out j (by omega), HS2.out⟩
        case measure => simp [intOf]; omega
    · obtain rfl : k = 128 := by omega
      have HN : Hid (mt d0 d1 fk fz fo = true) := mt_iff.2 HE.out
      go_wp2
      go_ret
      rw [HN.out]
      exact ⟨rfl, X3.out.trans (HB.out.mono X3.out.size)⟩
end Go.Proofs.Ytpigbhmamaghgaa
