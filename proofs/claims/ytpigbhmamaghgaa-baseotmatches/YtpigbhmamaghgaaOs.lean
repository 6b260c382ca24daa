/- Views cloned. -/
import Derived.Test.YtpigbhmamaghgaaOr
namespace Go.Proofs.Ytpigbhmamaghgaa
open Go.RowKit Pg
set_option maxRecDepth 100000
attribute [local go_sem] not_any

theorem own_below2 {base e size n : Nat} {w w' : World} {v : Value} {xs : List Value} (ho : w.ownsRow base e size v n xs) (hb : Below w.heap.size w w') : w'.ownsRow base e size v n xs := by
  refine ⟨ho.1, ?_⟩
  rcases ho.2 with h0 | ⟨g, cap, cur, hv, hg, hh, rest⟩
  · exact .inl h0
  · exact .inr ⟨g, cap, cur, hv, hg, (hb.block g (lt_heap hh)).trans hh, rest⟩
theorem own_setRow {base e size n b : Nat} {w : World} {v : Value} {xs : List Value} {cs : Array Value} (ho : w.ownsRow base e size v n xs) (hb : b < base) : (w.setRow b cs).ownsRow base e size v n xs := by
  refine ⟨ho.1, ?_⟩
  rcases ho.2 with h0 | ⟨g, cap, cur, hv, hg, hh, rest⟩
  · exact .inl h0
  · exact .inr ⟨g, cap, cur, hv, hg, (setRow_other w b g cs (by omega)).trans hh, rest⟩
theorem own_mono {base base' e size n : Nat} {w : World} {v : Value} {xs : List Value} (ho : w.ownsRow base e size v n xs) (hb : base' ≤ base) : w.ownsRow base' e size v n xs := by
  refine ⟨ho.1, ?_⟩
  rcases ho.2 with h0 | ⟨g, cap, cur, hv, hg, rest⟩
  · exact .inl h0
  · exact .inr ⟨g, cap, cur, hv, Nat.le_trans hb hg, rest⟩
theorem info23 : (Try.prog.info? 23).map (fun i => (i.zero, i.size, i.bytes)) = some (some (arr8 (zeros 32)), 32, 32) := by kernel_rfl
theorem flt_at {f : Nat → List Nat} (hf : ∀ i, (f i).length = 32) {n x : Nat} (hx : x < n * 32) : (flt f n)[x]? = (f (x / 32))[x % 32]? := by
  have := flt_get hf (n := n) (i := x / 32) (j := x % 32) (by omega) (Nat.mod_lt _ (by omega))
  rw [← this, show x / 32 * 32 + x % 32 = x by omega]

set_option maxHeartbeats 2000000 in
theorem sclone_any (w : World) (g c : Nat) (f : Nat → List Nat) (hs : Sds w (.slice (some ⟨g, 0, none⟩) 128 c) f 128) (hf : ∀ i, (f i).length = 32) :
    Calls Try.prog 25 #[.slice (some ⟨g, 0, none⟩) 128 c] w fun e w' => ∃ g' c', e = .returned (.slice (some ⟨g', 0, none⟩) 128 c') ∧ w'.ownsRow w.heap.size 23 32 (.slice (some ⟨g', 0, none⟩) 128 c') 128 (u8s (flt f 128)) ∧ Below w.heap.size w w' := by
  obtain ⟨i0, hi, hz0, hz1, hz2⟩ := info_of info23
  obtain ⟨g9, c9, e9, hgl, hr⟩ := hs.at'
  cases e9
  have HC : Hid (∀ x, x < 4096 → w.cell? ⟨g, x, none⟩ = (u8s (flt f 128))[x]?) := fun x hx => by
    have h1 := hr (x / 32) (by omega) (x % 32)
    have h2 : (u8s (f (x / 32)))[x % 32]? = (u8s (flt f 128))[x]? := by
      unfold u8s
      rw [List.getElem?_map, List.getElem?_map, flt_at hf (by omega)]
    have h3 : x % 32 < (u8s (f (x / 32))).length := by rw [u8s_length, hf]; exact Nat.mod_lt _ (by omega)
    rw [← h2, List.getElem?_eq_getElem h3]
    have := h1 _ (List.getElem?_eq_getElem h3)
    rw [show x / 32 * 32 + x % 32 = x by omega] at this
    exact this
  have HL : Hid ((u8s (flt f 128)).length = 128 * 32) := by rw [u8s_length]; exact flt_length hf 128
  have q27 : ∀ (w : World) (a : Option Addr) (n c n' c' : Nat), (binOp .eql 27 (.slice a n c) (.slice none n' c')).run Try.prog w = .ok (.bool a.isNone) w := fun w a n c n' c' => Lib.run_eql_slice_nil w _ _ a n c n' c' Try.underlying27
  clear hs hr
  go_enter Try.func25, Try.ntmps25
  go_wp2_with (at_builtin; refine wpList_append_lies _ rfl _ _ 27 rfl w.heap.size 23 i0 (arr8 (zeros 32)) 32 32 Try.underlying27 hi hz0 hz1 hz2 (by kernel_rfl) (by decide) _ _ _ rfl (World.ownsRow_made w #[] 0 (Nat.le_refl _) (Nat.zero_le _) rfl) ⟨g, 0, none⟩ 128 c (u8s (flt f 128)) rfl HL.out ?qc2 (u8s_one _) (by decide) (by unfold maxLen; omega) (by omega) (by simp) (w.heap.size + 1) (by simp) ?_)
  case qc2 =>
    intro j u hj
    have hjn : j < 4096 := by
      have := (List.getElem?_eq_some_iff.1 hj).1
      have h2 := HL.out
      omega
    rw [Addr.add_lit, Nat.zero_add]
    refine Lib.cell?_alloc_some _ ?_
    rw [HC.out j hjn]
    exact hj
  intro g' cap w1 hown hgrow hlies hlt
  go_wp2
  go_ret
  refine ⟨g', cap, rfl, by simpa using hown, ?_⟩
  exact ((Below.refl _ w).alloc (Nat.le_refl _) _).grown hgrow (by simp) (by intro k hk; simp [Value.ownBlock] at hk; omega)

set_option maxHeartbeats 4000000 in
theorem clone_any (d0 d1 : Nat) (w : World) (K Z O : Value) (fk fz fo : Nat → List Nat) (hK : Sds w K fk 128) (hZ : Sds w Z fz 128) (hO : Sds w O fo 128) (lk : ∀ i, (fk i).length = 32) (lz : ∀ i, (fz i).length = 32) (lo : ∀ i, (fo i).length = 32) :
    Calls Try.prog 12 #[.agg #[.int .u64 (d0 : Int), .int .u64 (d1 : Int), K, Z, O]] w fun e w' => ∃ vK dK vZ dZ vO dO, e = .returned (.agg #[.int .u64 (d0 : Int), .int .u64 (d1 : Int), .slice (some ⟨vK, 0, none⟩) 128 dK, .slice (some ⟨vZ, 0, none⟩) 128 dZ, .slice (some ⟨vO, 0, none⟩) 128 dO]) ∧ w'.ownsRow w.heap.size 23 32 (.slice (some ⟨vK, 0, none⟩) 128 dK) 128 (u8s (flt fk 128)) ∧ Below w.heap.size w w' := by
  obtain ⟨gK, cK, rfl, _, _⟩ := hK.at'
  obtain ⟨gZ, cZ, rfl, _, _⟩ := hZ.at'
  obtain ⟨gO, cO, rfl, _, _⟩ := hO.at'
  have KK := hide1 (fun W (hb : Below w.heap.size w W) => sclone_any W gK cK fk (hK.below hb (Nat.le_refl _)) lk)
  have KZ := hide1 (fun W (hb : Below w.heap.size w W) => sclone_any W gZ cZ fz (hZ.below hb (Nat.le_refl _)) lz)
  have KO := hide1 (fun W (hb : Below w.heap.size w W) => sclone_any W gO cO fo (hO.below hb (Nat.le_refl _)) lo)
  clear hK hZ hO lk lz lo
  go_enter Try.func12, Try.ntmps12
  go_upto_region 1 with (fail)
  generalize hW : World.alloc (World.alloc w _) _ = Z
  have x1 : Z.heap[w.heap.size]? = some (.cells #[.int .u64 (d0 : Int), .int .u64 (d1 : Int), .slice (some ⟨gK, 0, none⟩) 128 cK, .slice (some ⟨gZ, 0, none⟩) 128 cZ, .slice (some ⟨gO, 0, none⟩) 128 cO] 33 (0, 0)) := by rw [← hW]; exact heap_alloc2_old _ _ _
  have x2 : Z.heap[w.heap.size + 1]? = some (.cells #[.int .u64 0, .int .u64 0, .slice none 0 0, .slice none 0 0, .slice none 0 0] 33 (0, 0)) := by rw [← hW]; exact heap_alloc2_new _ _ _
  have x3 : Below w.heap.size w Z := by rw [← hW]; exact ((Below.refl _ _).alloc (Nat.le_refl _) _).alloc (by simp) _
  obtain ⟨B, hB⟩ : ∃ B, B = w.heap.size := ⟨_, rfl⟩
  have HBB := hide1 hB
  rw [← hB] at x1 x2 x3 KK KZ KO ⊢
  have hBZ : B ≤ Z.heap.size := by have := lt_heap x2; omega
  have kK := hide1 (fun W (hb : Below Z.heap.size Z W) => KK.out W (x3.trans (hb.mono hBZ)))
  have kZ := hide1 (fun W (hb : Below Z.heap.size Z W) => KZ.out W (x3.trans (hb.mono hBZ)))
  have kO := hide1 (fun W (hb : Below Z.heap.size Z W) => KO.out W (x3.trans (hb.mono hBZ)))
  have CV : Hid (∀ W', Below Z.heap.size Z W' → W'.cell? ⟨B, 0, none⟩ = some (.int .u64 (d0 : Int)) ∧ W'.cell? ⟨B, 1, none⟩ = some (.int .u64 (d1 : Int)) ∧ W'.cell? ⟨B, 2, none⟩ = some (.slice (some ⟨gK, 0, none⟩) 128 cK) ∧ W'.cell? ⟨B, 3, none⟩ = some (.slice (some ⟨gZ, 0, none⟩) 128 cZ) ∧ W'.cell? ⟨B, 4, none⟩ = some (.slice (some ⟨gO, 0, none⟩) 128 cO)) := fun W' h => by
    have e := (h.block _ (lt_heap x1)).trans x1
    refine ⟨?_, ?_, ?_, ?_, ?_⟩ <;> (rw [cell_of_row W' _ _ _ _ _ e]; rfl)
  have XB := hide1 x2
  have X3 := hide1 x3
  have hlt := lt_heap x2
  clear hW x1 x2 x3 KK KZ KO hB
  refine region_f (F := [18]) (S := fun W' => Below Z.heap.size Z W') (by kernel_rfl) (Below.refl _ _).drew (fun hS => ?_)
  refine take_p 0 3 (.pointer (some ⟨B, 0, none⟩)) rfl rfl (by kernel_rfl) (by kernel_rfl) (by kernel_rfl) (fun _ _ _ h => h) rfl (fun w => by go_simp) ?_
  try simp only [List.setIfInBounds_toArray, List.set_cons_zero, List.set_cons_succ]
  refine take_p 1 4 (.pointer (some ⟨B, 0, none⟩)) rfl rfl (by kernel_rfl) (by kernel_rfl) (by kernel_rfl) (fun _ _ _ h => h) rfl (fun w => by go_simp) ?_
  try simp only [List.setIfInBounds_toArray, List.set_cons_zero, List.set_cons_succ]
  refine take_f 2 5 (.agg #[.int .u64 (d0 : Int), .int .u64 (d1 : Int)]) [7, 17, 18] rfl rfl (by kernel_rfl) (by kernel_rfl) (by kernel_rfl) (by kernel_rfl) (by kernel_rfl) (by kernel_rfl) (fun _ _ _ h => h) rfl (fun w hSw => by obtain ⟨h0, h1, h2, h3, h4⟩ := CV.out _ hSw; go_simp) hS ?_
  try simp only [List.setIfInBounds_toArray, List.set_cons_zero, List.set_cons_succ]
  refine take_p 3 6 (.pointer (some ⟨B, 0, none⟩)) rfl rfl (by kernel_rfl) (by kernel_rfl) (by kernel_rfl) (fun _ _ _ h => h) rfl (fun w => by go_simp) ?_
  try simp only [List.setIfInBounds_toArray, List.set_cons_zero, List.set_cons_succ]
  refine take_p 4 7 (.pointer (some ⟨B, 2, none⟩)) rfl rfl (by kernel_rfl) (by kernel_rfl) (by kernel_rfl) (fun _ _ _ h => h) rfl (fun w => by go_simp) ?_
  try simp only [List.setIfInBounds_toArray, List.set_cons_zero, List.set_cons_succ]
  refine take_f 5 8 (.slice (some ⟨gK, 0, none⟩) 128 cK) [6, 7, 11, 15, 16, 17, 18] rfl rfl (by kernel_rfl) (by kernel_rfl) (by kernel_rfl) (by kernel_rfl) (by kernel_rfl) (by kernel_rfl) (fun _ _ _ h => h) rfl (fun w hSw => by obtain ⟨h0, h1, h2, h3, h4⟩ := CV.out _ hSw; go_simp) hS ?_
  try simp only [List.setIfInBounds_toArray, List.set_cons_zero, List.set_cons_succ]
  refine take_p 8 11 (.pointer (some ⟨B, 3, none⟩)) rfl rfl (by kernel_rfl) (by kernel_rfl) (by kernel_rfl) (fun _ _ _ h => h) rfl (fun w => by go_simp) ?_
  try simp only [List.setIfInBounds_toArray, List.set_cons_zero, List.set_cons_succ]
  refine take_p 9 12 (.pointer (some ⟨B, 3, none⟩)) rfl rfl (by kernel_rfl) (by kernel_rfl) (by kernel_rfl) (fun _ _ _ h => h) rfl (fun w => by go_simp) ?_
  try simp only [List.setIfInBounds_toArray, List.set_cons_zero, List.set_cons_succ]
  refine take_f 10 13 (.slice (some ⟨gZ, 0, none⟩) 128 cZ) [11, 15, 16, 17, 18] rfl rfl (by kernel_rfl) (by kernel_rfl) (by kernel_rfl) (by kernel_rfl) (by kernel_rfl) (by kernel_rfl) (fun _ _ _ h => h) rfl (fun w hSw => by obtain ⟨h0, h1, h2, h3, h4⟩ := CV.out _ hSw; go_simp) hS ?_
  try simp only [List.setIfInBounds_toArray, List.set_cons_zero, List.set_cons_succ]
  refine take_p 12 15 (.pointer (some ⟨B, 3, none⟩)) rfl rfl (by kernel_rfl) (by kernel_rfl) (by kernel_rfl) (fun _ _ _ h => h) rfl (fun w => by go_simp) ?_
  try simp only [List.setIfInBounds_toArray, List.set_cons_zero, List.set_cons_succ]
  refine take_p 13 16 (.pointer (some ⟨B, 4, none⟩)) rfl rfl (by kernel_rfl) (by kernel_rfl) (by kernel_rfl) (fun _ _ _ h => h) rfl (fun w => by go_simp) ?_
  try simp only [List.setIfInBounds_toArray, List.set_cons_zero, List.set_cons_succ]
  refine take_f 14 17 (.slice (some ⟨gO, 0, none⟩) 128 cO) [15, 16, 17, 18] rfl rfl (by kernel_rfl) (by kernel_rfl) (by kernel_rfl) (by kernel_rfl) (by kernel_rfl) (by kernel_rfl) (fun _ _ _ h => h) rfl (fun w hSw => by obtain ⟨h0, h1, h2, h3, h4⟩ := CV.out _ hSw; go_simp) hS ?_
  try simp only [List.setIfInBounds_toArray, List.set_cons_zero, List.set_cons_succ]
  refine ready_f 6 (o := { dst := some 9, op := Op.call { callee := Callee.value (Operand.func 25), args := #[Operand.tmp 8], argTypes := #[27] }, type := 27, pos := "baseot.go:35", after := #[{ on := 5, ground := Ground.data }], guard := none }) (by kernel_rfl) rfl (fun K hK => ?_)
  go_simp
  refine (kK.out _ hS).mono ?_
  rintro e w1 ⟨vK, dK, rfl, hoK, hbK⟩
  have hS1 : Below Z.heap.size Z w1 := hS.trans (hbK.mono hS.size)
  refine hK.out _ _ (fun _ _ => hS1) ?_
  clear hK K
  try simp only [Act.put, List.setIfInBounds_toArray, List.set_cons_zero, List.set_cons_succ]
  refine take_p 7 10 (.agg #[.int .u64 (d0 : Int), .int .u64 (d1 : Int), .slice (some ⟨vK, 0, none⟩) 128 dK]) rfl rfl (by kernel_rfl) (by kernel_rfl) (by kernel_rfl) (fun _ _ _ h => h) rfl (fun w => by go_simp) ?_
  try simp only [List.setIfInBounds_toArray, List.set_cons_zero, List.set_cons_succ]
  refine ready_f 11 (o := { dst := some 14, op := Op.call { callee := Callee.value (Operand.func 25), args := #[Operand.tmp 13], argTypes := #[27] }, type := 27, pos := "baseot.go:36", after := #[{ on := 10, ground := Ground.data }, { on := 6, ground := Ground.chain }], guard := none }) (by kernel_rfl) rfl (fun K hK => ?_)
  go_simp
  refine (kZ.out _ hS1).mono ?_
  rintro e w2 ⟨vZ, dZ, rfl, hoZ, hbZ⟩
  have hS2 : Below Z.heap.size Z w2 := hS1.trans (hbZ.mono hS1.size)
  refine hK.out _ _ (fun _ _ => hS2) ?_
  clear hK K
  try simp only [Act.put, List.setIfInBounds_toArray, List.set_cons_zero, List.set_cons_succ]
  refine ready_f 15 (o := { dst := some 18, op := Op.call { callee := Callee.value (Operand.func 25), args := #[Operand.tmp 17], argTypes := #[27] }, type := 27, pos := "baseot.go:36", after := #[{ on := 14, ground := Ground.data }, { on := 11, ground := Ground.chain }], guard := none }) (by kernel_rfl) rfl (fun K hK => ?_)
  go_simp
  refine (kO.out _ hS2).mono ?_
  rintro e w3 ⟨vO, dO, rfl, hoO, hbO⟩
  have hS3 : Below Z.heap.size Z w3 := hS2.trans (hbO.mono hS2.size)
  refine hK.out _ _ (fun _ _ => hS3) ?_
  clear hK K
  try simp only [Act.put, List.setIfInBounds_toArray, List.set_cons_zero, List.set_cons_succ]
  refine take_p 16 19 (.agg #[.slice (some ⟨vZ, 0, none⟩) 128 dZ, .slice (some ⟨vO, 0, none⟩) 128 dO]) rfl rfl (by kernel_rfl) (by kernel_rfl) (by kernel_rfl) (fun _ _ _ h => h) rfl (fun w => by go_simp) ?_
  try simp only [List.setIfInBounds_toArray, List.set_cons_zero, List.set_cons_succ]
  refine take_p 17 20 (.agg #[.int .u64 (d0 : Int), .int .u64 (d1 : Int), .slice (some ⟨vK, 0, none⟩) 128 dK, .slice (some ⟨vZ, 0, none⟩) 128 dZ, .slice (some ⟨vO, 0, none⟩) 128 dO]) rfl rfl (by kernel_rfl) (by kernel_rfl) (by kernel_rfl) (fun _ _ _ h => h) rfl (fun w => by go_simp) ?_
  try simp only [List.setIfInBounds_toArray, List.set_cons_zero, List.set_cons_succ]
  have r3 := (hS3.block _ (lt_heap XB.out)).trans XB.out
  refine ready_f 18 (o := { dst := none, op := Op.store 33 (Operand.tmp 2) (Operand.tmp 20), type := 0, pos := "baseot.go:34", after := #[{ on := 17, ground := Ground.data }, { on := 15, ground := Ground.chain }, { on := 0, ground := Ground.phase }, { on := 1, ground := Ground.phase }, { on := 2, ground := Ground.phase }, { on := 3, ground := Ground.phase }, { on := 4, ground := Ground.phase }, { on := 5, ground := Ground.phase }, { on := 6, ground := Ground.phase }, { on := 7, ground := Ground.phase }, { on := 8, ground := Ground.phase }, { on := 9, ground := Ground.phase }, { on := 10, ground := Ground.phase }, { on := 11, ground := Ground.phase }, { on := 12, ground := Ground.phase }, { on := 13, ground := Ground.phase }, { on := 14, ground := Ground.phase }, { on := 15, ground := Ground.phase }, { on := 16, ground := Ground.phase }, { on := 17, ground := Ground.phase }], guard := none }) (by kernel_rfl) rfl (fun K hK => ?_)
  rw [if_pos (by rfl)]
  refine wp_store_row 33 _ _ rfl (B + 1) _ rfl rfl 33 _ r3 (by kernel_rfl) (by simp) (by simp [Value.oneCell']) ?_
  refine hK.out _ _ (fun h => absurd (by decide) h) ?_
  clear hK K
  refine done_f (by kernel_rfl) ?_ _
  go_wp2
  refine bodyPost_ret_by (results_cell_row (P := Try.prog) Try.results12 _ _ (B + 1) 33 _ (0, 0) _ rfl (setRow_heap _ _ _ _ _ _ r3) Try.underlying33 rfl (by kernel_rfl)) rfl ?_
  refine ⟨vK, dK, vZ, dZ, vO, dO, rfl, ?_, ?_⟩
  · rw [← HBB.out]
    have o3 := own_below2 (own_below2 hoK hbZ) hbO
    exact own_mono (own_setRow o3 (by simpa using hlt)) hBZ
  · rw [← HBB.out]
    exact Below.setRow' (X3.out.trans (hS3.mono hBZ)) (by omega) _
end Go.Proofs.Ytpigbhmamaghgaa
