/- Unpack. -/
import Derived.Test.YtaghcbmipihpmaaUp
namespace Go.Proofs.Ytaghcbmipihpmaa
open Go.RowKit
set_option maxRecDepth 100000
attribute [local go_sem] not_any mf_any

theorem run_cut (s : ByteArray) (p q : Nat) (h1 : p ≤ q) (h2 : q ≤ s.size) (w : World) : (Instr.slice 9 (.string s) (some (.int .i64 (p : Int))) (some (.int .i64 (q : Int))) none).run Try.prog w = .ok (.string (s.extract p q)) w := by
  have := run_slice_string (P := Try.prog) w 9 s .i64 .i64 (p : Int) (q : Int) Try.underlying9 (by omega) (by omega) (by omega)
  simpa using this
/- a column's bytes; bits.Read's error of them -/
def prt (s : ByteArray) (sz i : Nat) : ByteArray := s.extract (i * sz) (i * sz + sz)
noncomputable def cd (n : Nat) (t : ByteArray) : Nat := @ite _ (Clean n t) (Classical.propDecidable _) 0 13
theorem cd_clean {n : Nat} {t : ByteArray} (h : Clean n t) : cd n t = 0 := if_pos h
theorem cd_not {n : Nat} {t : ByteArray} (h : ¬ Clean n t) : cd n t = 13 := if_neg h
theorem cd_zero {n : Nat} {t : ByteArray} (h : cd n t = 0) : Clean n t := by
  rcases Classical.em (Clean n t) with h1 | h1
  · exact h1
  · rw [cd_not h1] at h; cases h
theorem mul_place {i sz : Nat} (hi : i < 128) : i * sz + sz ≤ 128 * sz := by
  have := Nat.mul_le_mul_right sz (show i + 1 ≤ 128 by omega)
  rw [Nat.succ_mul] at this
  exact this
theorem prt_size {s : ByteArray} {sz i : Nat} (hs : s.size = 128 * sz) (hi : i < 128) : (prt s sz i).size = sz := by
  have := mul_place (sz := sz) hi
  rw [prt, ByteArray.size_extract, hs]
  omega

theorem tread_any (k : Nat) (w : World) (s : ByteArray) (hn : k ≤ 4194304) (hsz : s.size = need k 8) :
    Calls Try.prog 39 #[.int .i64 k, .string s] w fun e w' => ∃ (x : Nat) (av : Option Addr) (m : Nat), e = .returned (.tuple #[.agg #[.int .i64 x, .slice av m m], .int .i64 (cd k s : Nat)]) ∧ Below w.heap.size w w' ∧ (cd k s = 0 → x = k ∧ m = need k 64 ∧ Vc w.heap.size w' k av (rbits k s)) := by
  rcases Classical.em (Clean k s) with hc | hc
  · rw [cd_clean hc]
    refine (read_any k w s hn hsz hc).mono ?_
    rintro e w' ⟨a, rfl, hv, hb⟩
    exact ⟨k, a, _, rfl, hb, fun _ => ⟨rfl, rfl, hv⟩⟩
  · rw [cd_not hc]
    have h8 : 0 < k % 8 := by
      apply Nat.pos_of_ne_zero
      intro h0
      apply hc
      intro q x hx j hj hn
      have hq : q < s.size := by rw [← nums_length]; exact (List.getElem?_eq_some_iff.1 hx).1
      rw [hsz, need8] at hq
      omega
    have hp : 1 ≤ need k 8 := by rw [need8]; omega
    obtain ⟨x, hx⟩ : ∃ x, (nums s)[need k 8 - 1]? = some x := ⟨_, List.getElem?_eq_getElem (by rw [nums_length, hsz]; omega)⟩
    refine (read_form k w s x (by omega) hsz h8 hx ?_).mono ?_
    · intro h0
      apply hc
      intro q y hy j hj hn
      have hq : q < s.size := by rw [← nums_length]; exact (List.getElem?_eq_some_iff.1 hy).1
      rw [hsz, need8] at hq
      have e : q = need k 8 - 1 := by rw [need8]; omega
      subst e
      rw [hx] at hy
      cases hy
      have hlt : x < 2 ^ (k % 8) := by
        have := Nat.two_pow_pos (k % 8)
        rcases Nat.lt_or_ge x (2 ^ (k % 8)) with h | h
        · exact h
        · have := Nat.div_pos h this
          omega
      exact Nat.testBit_lt_two_pow (Nat.lt_of_lt_of_le hlt (Nat.pow_le_pow_right (by omega) (by rw [need8] at hn; omega)))
    · rintro e w' ⟨rfl, hb⟩
      exact ⟨0, none, 0, rfl, hb, fun h => by cases h⟩

set_option maxHeartbeats 4000000 in
theorem unp1_any (w : World) (n i bn bs bz sz : Nat) (s : ByteArray) (h1 : w.cell? ⟨bn, 0, none⟩ = some (.int .i64 n)) (h2 : w.cell? ⟨bs, 0, none⟩ = some (.string s)) (h3 : w.cell? ⟨bz, 0, none⟩ = some (.int .i64 sz)) (hz : sz = need n 8) (hs : s.size = 128 * sz) (hi : i < 128) (hn : n ≤ 65536) :
    Calls Try.prog 38 #[.int .i64 i, .pointer (some ⟨bn, 0, none⟩), .pointer (some ⟨bs, 0, none⟩), .pointer (some ⟨bz, 0, none⟩)] w (TellP n (fun i => rbits n (prt s sz i)) (fun i => cd n (prt s sz i)) i w) := by
  have hz2 : sz ≤ 8192 := by rw [hz, need8]; omega
  have hmp := mul_place (sz := sz) hi
  have kR := fun w => hide1 (tread_any n w (prt s sz i) (by omega) (by rw [prt_size hs hi, hz]))
  obtain ⟨p, hp⟩ : ∃ p, p = i * sz := ⟨_, rfl⟩
  obtain ⟨q, hq⟩ : ∃ q, q = p + sz := ⟨_, rfl⟩
  rw [← hp, ← hq] at hmp
  have q1 : IntKind.i64.wrap ((i : Int) * (sz : Int)) = (p : Int) := by rw [← Int.natCast_mul, ← hp, IntKind.wrap_i64]; omega
  have wp : IntKind.i64.wrap (p : Int) = (p : Int) := by rw [IntKind.wrap_i64]; omega
  have wq : IntKind.i64.wrap (q : Int) = (q : Int) := by rw [IntKind.wrap_i64]; omega
  have q1' : (i : Int) * (sz : Int) = (p : Int) := by rw [← Int.natCast_mul, ← hp]
  have q2' : ((i : Int) + 1) * (sz : Int) = (q : Int) := by rw [Int.add_mul, q1', hq]; omega
  have q2 : IntKind.i64.wrap (((i : Int) + 1) * (sz : Int)) = (q : Int) := by rw [q2', IntKind.wrap_i64]; omega
  have q3 : IntKind.i64.wrap ((i : Int) + 1) = (i : Int) + 1 := by rw [IntKind.wrap_i64]; omega
  have hcut := run_cut s p q (by omega) (by omega)
  have HT : Hid (s.extract p q = prt s sz i) := by rw [hq, hp]; rfl
  rw [HT.out] at hcut
  obtain ⟨t, ht⟩ : ∃ t, t = prt s sz i := ⟨_, rfl⟩
  have HTT := hide1 ht
  rw [← ht] at hcut kR
  obtain ⟨B, hB⟩ : ∃ B, B = w.heap.size := ⟨_, rfl⟩
  have HBB := hide1 hB
  have CN : Hid (∀ W', Below B w W' → W'.cell? ⟨bn, 0, none⟩ = some (.int .i64 n)) := fun W' h => (h.cell (p := ⟨bn, 0, none⟩) (by rw [hB]; exact lt_cell h1)).trans h1
  have CS : Hid (∀ W', Below B w W' → W'.cell? ⟨bs, 0, none⟩ = some (.string s)) := fun W' h => (h.cell (p := ⟨bs, 0, none⟩) (by rw [hB]; exact lt_cell h2)).trans h2
  have CZ : Hid (∀ W', Below B w W' → W'.cell? ⟨bz, 0, none⟩ = some (.int .i64 sz)) := fun W' h => (h.cell (p := ⟨bz, 0, none⟩) (by rw [hB]; exact lt_cell h3)).trans h3
  obtain ⟨W, hWW⟩ : ∃ W, W = w.alloc (.cells #[.int .i64 0, .slice none 0 0] 32) := ⟨_, rfl⟩
  have HB : Hid (Below B w W) := by rw [hWW, hB]; exact below_alloc1 _ _
  have HBX : Hid (W.heap[B]? = some (.cells #[.int .i64 0, .slice none 0 0] 32 (0, 0))) := by rw [hWW, hB]; exact heap_alloc_new _ _
  have hsz : B < W.heap.size := lt_heap HBX.out
  clear h1 h2 h3 hz hs HT ht hp hq
  go_enter Try.func38, Try.ntmps38
  go_wp2_with fail
  rw [← hWW, ← hB]
  clear hWW hB
  refine region_f (F := []) (S := fun W' => Below B w W') (by kernel_rfl) HB.out.drew (fun hS => ?_)
  refine take_f 0 7 (.int .i64 (n : Int)) [10, 11, 12, 13, 14] rfl rfl (by kernel_rfl) (by kernel_rfl) (by kernel_rfl) (by kernel_rfl) (by kernel_rfl) (by kernel_rfl) (fun _ _ _ h => h) rfl (fun w hSw => by have h := CN.out w hSw; go_simp) hS ?_
  try simp only [List.setIfInBounds_toArray, List.set_cons_zero, List.set_cons_succ]
  refine take_f 1 8 (.string s) [9, 10, 11, 12, 13, 14] rfl rfl (by kernel_rfl) (by kernel_rfl) (by kernel_rfl) (by kernel_rfl) (by kernel_rfl) (by kernel_rfl) (fun _ _ _ h => h) rfl (fun w hSw => by have h := CS.out w hSw; go_simp) hS ?_
  try simp only [List.setIfInBounds_toArray, List.set_cons_zero, List.set_cons_succ]
  refine take_p 2 9 (.int .i64 (i : Int)) rfl rfl (by kernel_rfl) (by kernel_rfl) (by kernel_rfl) (fun _ _ _ h => h) rfl (fun w => by go_simp) ?_
  try simp only [List.setIfInBounds_toArray, List.set_cons_zero, List.set_cons_succ]
  refine take_f 3 10 (.int .i64 (sz : Int)) [4, 9, 10, 11, 12, 13, 14] rfl rfl (by kernel_rfl) (by kernel_rfl) (by kernel_rfl) (by kernel_rfl) (by kernel_rfl) (by kernel_rfl) (fun _ _ _ h => h) rfl (fun w hSw => by have h := CZ.out w hSw; go_simp) hS ?_
  try simp only [List.setIfInBounds_toArray, List.set_cons_zero, List.set_cons_succ]
  refine take_p 4 11 (.int .i64 (p : Int)) rfl rfl (by kernel_rfl) (by kernel_rfl) (by kernel_rfl) (fun _ _ _ h => h) rfl (fun w => by go_simp) ?_
  try simp only [List.setIfInBounds_toArray, List.set_cons_zero, List.set_cons_succ]
  refine take_p 5 12 (.int .i64 (i : Int)) rfl rfl (by kernel_rfl) (by kernel_rfl) (by kernel_rfl) (fun _ _ _ h => h) rfl (fun w => by go_simp) ?_
  try simp only [List.setIfInBounds_toArray, List.set_cons_zero, List.set_cons_succ]
  refine take_p 6 13 (.int .i64 ((i : Int) + 1)) rfl rfl (by kernel_rfl) (by kernel_rfl) (by kernel_rfl) (fun _ _ _ h => h) rfl (fun w => by go_simp) ?_
  try simp only [List.setIfInBounds_toArray, List.set_cons_zero, List.set_cons_succ]
  refine take_f 7 14 (.int .i64 (sz : Int)) [8, 9, 10, 11, 12, 13, 14] rfl rfl (by kernel_rfl) (by kernel_rfl) (by kernel_rfl) (by kernel_rfl) (by kernel_rfl) (by kernel_rfl) (fun _ _ _ h => h) rfl (fun w hSw => by have h := CZ.out w hSw; go_simp) hS ?_
  try simp only [List.setIfInBounds_toArray, List.set_cons_zero, List.set_cons_succ]
  refine take_p 8 15 (.int .i64 (q : Int)) rfl rfl (by kernel_rfl) (by kernel_rfl) (by kernel_rfl) (fun _ _ _ h => h) rfl (fun w => by go_simp) ?_
  try simp only [List.setIfInBounds_toArray, List.set_cons_zero, List.set_cons_succ]
  refine take_p 9 16 (.string t) rfl rfl (by kernel_rfl) (by kernel_rfl) (by kernel_rfl) (fun _ _ _ h => h) rfl (fun w => by go_simp) ?_
  try simp only [List.setIfInBounds_toArray, List.set_cons_zero, List.set_cons_succ]
  refine ready_f 10 (o := { dst := some 17, op := Op.call { callee := Callee.value (Operand.func 39), args := #[Operand.tmp 7, Operand.tmp 16], argTypes := #[3, 9] }, type := 61, pos := "trans.go:68", after := #[{ on := 0, ground := Ground.data }, { on := 9, ground := Ground.data }], guard := none }) (by kernel_rfl) rfl (fun K hK => ?_)
  go_simp
  refine (kR _).out.mono ?_
  rintro e w1 ⟨x, av, m, rfl, hb1, hv1⟩
  have hS1 : Below B w w1 := hS.trans (hb1.mono (Nat.le_of_lt hsz))
  have r1 := (hb1.block B (show B < W.heap.size from hsz)).trans HBX.out
  refine hK.out _ _ (fun _ _ => hS1) ?_
  clear hK K
  try simp only [Act.put, List.setIfInBounds_toArray, List.set_cons_zero, List.set_cons_succ]
  refine take_p 11 18 (.agg #[.int .i64 (x : Int), .slice av m m]) rfl rfl (by kernel_rfl) (by kernel_rfl) (by kernel_rfl) (fun _ _ _ h => h) rfl (fun w => by go_simp) ?_
  try simp only [List.setIfInBounds_toArray, List.set_cons_zero, List.set_cons_succ]
  refine take_p 12 19 (.int .i64 (cd n t : Nat)) rfl rfl (by kernel_rfl) (by kernel_rfl) (by kernel_rfl) (fun _ _ _ h => h) rfl (fun w => by go_simp) ?_
  try simp only [List.setIfInBounds_toArray, List.set_cons_zero, List.set_cons_succ]
  refine ready_f 13 (o := { dst := none, op := Op.store 32 (Operand.tmp 5) (Operand.tmp 18), type := 0, pos := "trans.go:68", after := #[{ on := 11, ground := Ground.data }, { on := 10, ground := Ground.chain }, { on := 0, ground := Ground.phase }, { on := 1, ground := Ground.phase }, { on := 2, ground := Ground.phase }, { on := 3, ground := Ground.phase }, { on := 4, ground := Ground.phase }, { on := 5, ground := Ground.phase }, { on := 6, ground := Ground.phase }, { on := 7, ground := Ground.phase }, { on := 8, ground := Ground.phase }, { on := 9, ground := Ground.phase }, { on := 10, ground := Ground.phase }, { on := 11, ground := Ground.phase }, { on := 12, ground := Ground.phase }], guard := none }) (by kernel_rfl) rfl (fun K hK => ?_)
  rw [if_pos (by rfl)]
  refine wp_store_row 32 _ _ rfl B _ rfl rfl 32 _ r1 (by kernel_rfl) (by simp) (by simp [Value.oneCell']) ?_
  refine hK.out _ _ (fun _ h => below_setRow h (Nat.le_refl _) _) ?_
  clear hK K
  refine take_p 14 6 (.int .i64 (cd n t : Nat)) rfl rfl (by kernel_rfl) (by kernel_rfl) (by kernel_rfl) (fun _ _ _ h => h) rfl (fun w => by go_simp) ?_
  try simp only [List.setIfInBounds_toArray, List.set_cons_zero, List.set_cons_succ]
  refine done_f (by kernel_rfl) ?_ _
  go_wp2
  refine ret_vec2 Try.results38 B (.int .i64 x) (.slice av m m) (.int .i64 (cd n t : Nat)) rfl rfl (setRow_heap _ _ _ _ _ _ r1) rfl ?_
  rw [HTT.out]
  rw [HTT.out] at hv1
  refine ⟨x, av, m, rfl, ?_, fun h => ?_⟩
  · rw [← HBB.out]; exact below_setRow hS1 (Nat.le_refl _) _
  · obtain ⟨g1, g2, g3⟩ := hv1 h
    refine ⟨g1, g2, ?_⟩
    rw [← HBB.out]
    refine (g3.kept (fun g hg => setRow_other _ _ _ _ ?_)).mono (Nat.le_of_lt hsz)
    rcases g3.at' with ⟨_, e⟩ | ⟨g', e, hb, _⟩
    · rw [e] at hg; cases hg
    · rw [e] at hg
      cases hg
      have : W.heap.size ≤ g := hb
      omega

set_option maxHeartbeats 2000000 in
theorem coll_unp (bn bs bz : Nat) (n : Nat) (L : Nat → List Bool) (E : Nat → Nat) (w : World) (hn : n ≤ 4194304)
    (hC : ∀ W i, i < 128 → Below w.heap.size w W → Calls Try.prog 38 #[.int .i64 (i : Nat), .pointer (some ⟨bn, 0, none⟩), .pointer (some ⟨bs, 0, none⟩), .pointer (some ⟨bz, 0, none⟩)] W (TellP n L E i W)) :
    Calls Try.prog 24 #[.func (.func 38) #[] #[.pointer (some ⟨bn, 0, none⟩), .pointer (some ⟨bs, 0, none⟩), .pointer (some ⟨bz, 0, none⟩)]] w fun e w' => Got w w' n L E e := by
  obtain ⟨cs0, hz0, hmk⟩ := make_vecs w
  have HC := hide1 hC
  clear hC
  obtain ⟨W0, hW0⟩ : ∃ W0, W0 = w.alloc (.cells cs0 32 (0, 0)) := ⟨_, rfl⟩
  have A0 : Hid (Vrow W0 w.heap.size 0 n (fun _ => none) L) := ⟨⟨cs0, hz0, by rw [hW0]; exact heap_alloc_new _ _, fun i hi => by omega⟩, fun i hi => by omega⟩
  have A1 : Hid (Below w.heap.size w W0) := by rw [hW0]; exact below_alloc1 _ _
  rw [← hW0] at hmk
  clear hW0 hz0
  obtain ⟨g, hg⟩ : ∃ g, g = w.heap.size := ⟨_, rfl⟩
  have HG := hide1 hg
  rw [← hg] at hmk A0 A1
  clear hg
  go_enter Try.func24, Try.ntmps24
  go_wp2
  clear hmk
  go_loopw [11] (fun i wr => ∃ (k : Nat) (aa : Nat → Option Addr), k ≤ 128 ∧ i = .int .i64 k ∧ Vrow wr g k n aa L ∧ Below g w wr ∧ ∀ i, i < k → E i = 0) (fun i _ => 128 - (intOf i).toNat)
  case atStart => exact ⟨0, _, Nat.zero_le _, rfl, A0.out, A1.out, fun i hi => by omega⟩
  case round =>
    obtain ⟨k, aa, hk, rfl, hV, hB, hE⟩ := hrel
    clear A0 A1
    have HV := hide1 hV
    have HB := hide1 hB
    have HE := hide1 hE
    clear hV hB hE
    by_cases hlt : k < 128
    · have HK := hide1 (HC.out wr k hlt (by rw [← HG.out]; exact HB.out))
      clear HC
      go_wp2_with fail
      go_at_call 38
      refine HK.out.mono ?_
      rintro e w1 ⟨x, av, m, rfl, hb1, hv1⟩
      by_cases hz : E k = 0
      · obtain ⟨rfl, rfl, hv2⟩ := hv1 hz
        have gl := (HV.out.cells (j := 0) (by omega)).2.2
        have V1 : Hid (Vrow (w1.alloc (.cells #[.int .i64 x, .slice av (need x 64) (need x 64)] 32)) g k x aa L) := (HV.out.below hb1).below (below_alloc1 _ _)
        have B1 : Hid (Below g w (w1.alloc (.cells #[.int .i64 x, .slice av (need x 64) (need x 64)] 32))) := (HB.out.trans (hb1.mono (by omega))).alloc (by have := hb1.size; omega) _
        have C1 : Hid (Vc (g + 1) (w1.alloc (.cells #[.int .i64 x, .slice av (need x 64) (need x 64)] 32)) x av (L k)) := (hv2.mono (by omega)).alloc _
        have D1 := box2 (heap_alloc_new w1 (.cells #[.int .i64 x, .slice av (need x 64) (need x 64)] 32))
        obtain ⟨d0, d1, d2, d3, _⟩ := D1
        obtain ⟨⟨y0, e0⟩, e1, e2⟩ := V1.out.cells (j := k * 2) (by omega)
        obtain ⟨⟨y1, e3⟩, e4, _⟩ := V1.out.cells (j := k * 2 + 1) (by omega)
        have HZ := hide1 hz
        rw [hz]
        clear hb1 hv1 hv2 hz gl
        go_upto_region 6 with (fail)
        generalize w1.alloc (.cells #[.int .i64 x, .slice av (need x 64) (need x 64)] 32) = W4 at *
        go_wp2
        go_roundw
        case rel => exact ⟨k + 1, _, by omega, by go_num, V1.out.add hlt C1.out, (B1.out.setCell (Nat.le_refl _) _).setCell (Nat.le_refl _) _, fun i hi => by
          by_cases e : i = k
          · rw [e]; exact HZ.out
          · exact HE.out i (by omega)⟩
        case measure => simp [intOf]; omega
      · have HZ := hide1 hz
        have B1 : Hid (Below g w (w1.alloc (.cells #[.int .i64 x, .slice av m m] 32))) := by
          have gl := (HV.out.cells (j := 0) (by omega)).2.2
          exact (HB.out.trans (hb1.mono (by omega))).alloc (by have := hb1.size; omega) _
        obtain ⟨E0, hE0⟩ : ∃ E0, E0 = E k := ⟨_, rfl⟩
        rw [← hE0] at hz ⊢
        have hz2 : ((E0 : Int) != 0) = true := by rw [bne_iff_ne]; omega
        have hz3 : ¬ (E0 : Int) = 0 := by omega
        have HE0 := hide1 hE0
        clear hv1 hb1 hE0 hz
        go_wp2
        go_ret2
        refine ⟨by rw [← HG.out]; exact B1.out, .inl ⟨k, hlt, HE.out, HZ.out, ?_⟩⟩
        rw [← HE0.out]
        rfl
    · obtain rfl : k = 128 := by omega
      go_wp2
      go_ret2
      exact ⟨by rw [← HG.out]; exact HB.out, .inr ⟨HE.out, g, aa, rfl, HV.out.vcs hn⟩⟩
end Go.Proofs.Ytaghcbmipihpmaa
