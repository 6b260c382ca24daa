/- The walk of IknpTells. -/
import Derived.Test.YtdahnbojnleboaaJ40
import Derived.Test.YtdahnbojnleboaaJ42
namespace Go.Proofs.Ytdahnbojnleboaa.I
open Go.RowKit Pg
set_option maxRecDepth 100000
attribute [local go_sem] not_any T.mf_any

/- the rows that the law makes -/
def flip (t : Bool) (j x : Nat) : Nat := if t = true ∧ j = 0 then x ^^^ 9223372036854775808 else x
def mkR (d0 d1 : Nat) (R : Nat → Nat → Nat) (ch : List Bool) (t : Bool) (j p : Nat) : Nat := if p = 0 then R j 0 ^^^ tm (ch.getD j false) d0 else flip t j (R j 1 ^^^ tm (ch.getD j false) d1)
theorem xor_lt {x y : Nat} (hx : x < 18446744073709551616) (hy : y < 18446744073709551616) : x ^^^ y < 18446744073709551616 := Nat.xor_lt_two_pow (n := 64) hx hy
theorem tm_lt (t : Bool) {x : Nat} (hx : x < 18446744073709551616) : tm t x < 18446744073709551616 := by unfold tm; split <;> omega
theorem flip_lt (t : Bool) (j : Nat) {x : Nat} (hx : x < 18446744073709551616) : flip t j x < 18446744073709551616 := by
  unfold flip
  split
  · exact xor_lt hx (by omega)
  · exact hx
theorem mkR_lt (d0 d1 : Nat) (R : Nat → Nat → Nat) (ch : List Bool) (t : Bool) (hR : ∀ j p, R j p < 18446744073709551616) (h0 : d0 < 18446744073709551616) (h1 : d1 < 18446744073709551616) (j p : Nat) : mkR d0 d1 R ch t j p < 18446744073709551616 := by
  unfold mkR
  split
  · exact xor_lt (hR j 0) (tm_lt _ h0)
  · exact flip_lt _ _ (xor_lt (hR j 1) (tm_lt _ h1))
theorem rcs_succ (M : Nat → Nat → Nat) (k : Nat) : T.rcs M (k + 1) = T.rcs M k ++ [.int .u64 (M k 0 : Nat), .int .u64 (M k 1 : Nat)] := by
  unfold T.rcs
  rw [show (k + 1) * 2 = k * 2 + 1 + 1 by omega, List.range_succ, List.range_succ]
  simp only [List.map_append, List.map_cons, List.map_nil, List.append_assoc, List.cons_append, List.nil_append]
  rw [show k * 2 / 2 = k by omega, show k * 2 % 2 = 0 by omega, show (k * 2 + 1) / 2 = k by omega, show (k * 2 + 1) % 2 = 1 by omega]
theorem own_rws {w : World} {base k c : Nat} {la : Option Addr} {M : Nat → Nat → Nat} (h : w.ownsRow base 28 2 (.slice la k c) k (T.rcs M k)) (hM : ∀ j p, M j p < 18446744073709551616) : T.Rws w k la M := by
  refine ⟨fun j hj => ?_, hM⟩
  rcases h.2 with ⟨_, h0⟩ | ⟨g, cap, cur, hv, hg, hh, hcap, r⟩
  · omega
  · cases hv
    refine ⟨g, 0, rfl, ?_, ?_⟩
    · rw [Nat.zero_add, h.cellAt (j * 2) (by omega), T.rcs_get (by omega), show j * 2 / 2 = j by omega, show j * 2 % 2 = 0 by omega]
    · rw [Nat.zero_add, h.cellAt (j * 2 + 1) (by omega), T.rcs_get (by omega), show (j * 2 + 1) / 2 = j by omega, show (j * 2 + 1) % 2 = 1 by omega]
theorem infoR : (Try.prog.info? 28).map (fun i => (i.zero, i.size, i.bytes)) = some (some (.agg #[.int .u64 0, .int .u64 0]), 2, 16) := by kernel_rfl

theorem tells_else (d0 d1 m mr N c cr cb : Nat) (a ar av : Option Addr) (t : Bool) (w : World) (hbig : 60 < m ∨ 60 < mr ∨ 60 < N) :
    Calls Try.prog 6 #[rw2 d0 d1, .slice a m c, .slice ar mr cr, .slice av N cb, .bool t] w fun e w' => e = .returned (.bool true) ∧ Below w.heap.size w w' := by
  have kA := fun w => hide1 (awake_any w)
  have B0 := hide1 (On.start w (row2 d0 d1)).bel
  unfold row2 at B0
  unfold rw2
  by_cases h1 : 60 < m
  · have t1 : (60 : Int) < (m : Int) := by omega
    clear hbig
    go_enter Try.func6, Try.ntmps6
    go_wp2_with fail
    go_at_call 7
    refine (kA _).out.mono ?_
    rintro e w9 ⟨rfl, hb9⟩
    have B9 := hide1 (B0.out.trans (hb9.mono B0.out.size))
    clear hb9
    go_wp2
    go_ret
    exact ⟨rfl, B9.out⟩
  · have t1 : ¬ (60 : Int) < (m : Int) := by omega
    by_cases h2 : 60 < mr
    · have t2 : (60 : Int) < (mr : Int) := by omega
      clear hbig
      go_enter Try.func6, Try.ntmps6
      go_wp2_with fail
      go_at_call 7
      refine (kA _).out.mono ?_
      rintro e w9 ⟨rfl, hb9⟩
      have B9 := hide1 (B0.out.trans (hb9.mono B0.out.size))
      clear hb9
      go_wp2
      go_ret
      exact ⟨rfl, B9.out⟩
    · have t2 : ¬ (60 : Int) < (mr : Int) := by omega
      have t3 : (60 : Int) < (N : Int) := by omega
      clear hbig
      go_enter Try.func6, Try.ntmps6
      go_wp2_with fail
      go_at_call 7
      refine (kA _).out.mono ?_
      rintro e w9 ⟨rfl, hb9⟩
      have B9 := hide1 (B0.out.trans (hb9.mono B0.out.size))
      clear hb9
      go_wp2
      go_ret
      exact ⟨rfl, B9.out⟩

set_option maxHeartbeats 16000000 in
theorem tells_in (d0 d1 m mr N c cr cb : Nat) (a ar av : Option Addr) (S R : Nat → Nat → Nat) (ch : List Bool) (t : Bool) (w : World) (hS : T.Rws w m a S) (hR : T.Rws w mr ar R) (hv : T.Bl w N av ch) (hm : m ≤ 60) (hmr : mr ≤ 60) (hN : N ≤ 60) (hd0 : d0 < 18446744073709551616) (hd1 : d1 < 18446744073709551616) :
    Calls Try.prog 6 #[rw2 d0 d1, .slice a m c, .slice ar mr cr, .slice av N cb, .bool t] w fun e w' => e = .returned (.bool true) ∧ Below w.heap.size w w' := by
  obtain ⟨i0, hi0, hz0, hz1, hz2⟩ := info_parts infoR
  have kA := fun w => hide1 (awake_any w)
  have kO := hide1 (T.of_any (w.alloc (row2 d0 d1)) N cb av ch (hv.below ((Below.refl w.heap.size w).alloc (Nat.le_refl _) _) (Nat.le_refl _)) (by omega))
  have A0 := hide1 (On.start w (row2 d0 d1))
  have HS0 := hide1 hS
  have HR0 := hide1 hR
  have HB0 := hide1 hv
  have t1 : ¬ (60 : Int) < (m : Int) := by omega
  have t2 : ¬ (60 : Int) < (mr : Int) := by omega
  have t3 : ¬ (60 : Int) < (N : Int) := by omega
  obtain ⟨W0, hW0⟩ : ∃ W0, W0 = w.alloc (row2 d0 d1) := ⟨_, rfl⟩
  rw [← hW0] at kO A0
  unfold row2 at hW0
  clear hS hR hv
  show Calls _ _ #[.agg #[.int .u64 (d0 : Int), .int .u64 (d1 : Int)], _, _, _, _] _ _
  go_enter Try.func6, Try.ntmps6
  go_upto_region 1 with (fail)
  rw [← hW0]
  clear hW0
  go_wp2_with fail
  go_at_call 9
  refine kO.out.mono ?_
  rintro e w1 ⟨ac, rfl, hv1, hb1⟩
  obtain ⟨V, hV⟩ : ∃ V, V = w1.alloc (.cells #[.int .i64 (N : Int), .slice ac (T.need N 64) (T.need N 64)] 40) := ⟨_, rfl⟩
  have hb2 : Below w1.heap.size w1 V := by rw [hV]; exact T.below_alloc1 _ _
  have A2 := hide1 ((A0.out.to hb1).to hb2)
  obtain ⟨b3, hb3⟩ : ∃ b, b = w1.heap.size := ⟨_, rfl⟩
  have XV : Hid (V.heap[b3]? = some (.cells #[.int .i64 (N : Int), .slice ac (T.need N 64) (T.need N 64)] 40 (0, 0))) := by rw [hV, hb3]; exact heap_alloc_new _ _
  have HV := hide1 ((hv1.below hb2 (Nat.le_refl _)).mono (Nat.zero_le _))
  have HS := hide1 (HS0.out.below A2.out.bel (Nat.le_refl _))
  have HR := hide1 (HR0.out.below A2.out.bel (Nat.le_refl _))
  have HB := hide1 (HB0.out.below A2.out.bel (Nat.le_refl _))
  clear hv1 hb1 hb2 kO A0 HS0 HR0 HB0
  go_upto_region 4 with (fail)
  rw [← hb3, ← hV]
  clear hV hb3 w1
  have CD : Hid (∀ W, Below V.heap.size V W → W.cell? ⟨w.heap.size, 0, none⟩ = some (.int .u64 (d0 : Int)) ∧ W.cell? ⟨w.heap.size, 1, none⟩ = some (.int .u64 (d1 : Int))) := fun W hW => by
    have h := T.box2 ((hW.block _ (T.lt_heap A2.out.h1)).trans A2.out.h1)
    exact ⟨h.1, h.2.1⟩
  have CV : Hid (∀ W, Below V.heap.size V W → W.cell? ⟨b3, 0, none⟩ = some (.int .i64 (N : Int)) ∧ W.cell? ⟨b3, 1, none⟩ = some (.slice ac (T.need N 64) (T.need N 64))) := fun W hW => by
    have h := T.box2 ((hW.block _ (T.lt_heap XV.out)).trans XV.out)
    exact ⟨h.1, h.2.1⟩
  have kJ := fun W h1 h2 h3 => hide1 (joined_any d0 d1 m mr N c cr 0 a ar ac S R ch W h2 h3 h1 (by omega) (by omega) (by omega) hd0 hd1)
  have kQ := fun W h1 h2 h3 => hide1 (rjoined_any d0 d1 m mr N c cr cb a ar av S R ch W h2 h3 h1 (by omega) (by omega) (by omega) hd0 hd1)
  generalize jn d0 d1 S R m mr N ch = J at kJ kQ
  refine region_f (F := []) (S := fun W' => Below V.heap.size V W') (by kernel_rfl) (Below.refl _ _).drew (fun hS => ?_)
  refine take_f 0 35 (.agg #[.int .u64 (d0 : Int), .int .u64 (d1 : Int)]) [4, 9, 10] rfl rfl (by kernel_rfl) (by kernel_rfl) (by kernel_rfl) (by kernel_rfl) (by kernel_rfl) (by kernel_rfl) (fun _ _ _ h => h) rfl (fun w hSw => by have h1 := (CD.out w hSw).1; have h2 := (CD.out w hSw).2; go_simp) hS ?_
  try simp only [List.setIfInBounds_toArray, List.set_cons_zero, List.set_cons_succ]
  refine take_p 1 36 (.slice a m c) rfl rfl (by kernel_rfl) (by kernel_rfl) (by kernel_rfl) (fun _ _ _ h => h) rfl (fun w => by go_simp) ?_
  try simp only [List.setIfInBounds_toArray, List.set_cons_zero, List.set_cons_succ]
  refine take_p 2 37 (.slice ar mr cr) rfl rfl (by kernel_rfl) (by kernel_rfl) (by kernel_rfl) (fun _ _ _ h => h) rfl (fun w => by go_simp) ?_
  try simp only [List.setIfInBounds_toArray, List.set_cons_zero, List.set_cons_succ]
  refine take_f 3 38 (.agg #[.int .i64 (N : Int), .slice ac (T.need N 64) (T.need N 64)]) [4, 9, 10] rfl rfl (by kernel_rfl) (by kernel_rfl) (by kernel_rfl) (by kernel_rfl) (by kernel_rfl) (by kernel_rfl) (fun _ _ _ h => h) rfl (fun w hSw => by have h1 := (CV.out w hSw).1; have h2 := (CV.out w hSw).2; go_simp) hS ?_
  try simp only [List.setIfInBounds_toArray, List.set_cons_zero, List.set_cons_succ]
  refine take_f 5 40 (.agg #[.int .u64 (d0 : Int), .int .u64 (d1 : Int)]) [9, 10] rfl rfl (by kernel_rfl) (by kernel_rfl) (by kernel_rfl) (by kernel_rfl) (by kernel_rfl) (by kernel_rfl) (fun _ _ _ h => h) rfl (fun w hSw => by have h1 := (CD.out w hSw).1; have h2 := (CD.out w hSw).2; go_simp) hS ?_
  try simp only [List.setIfInBounds_toArray, List.set_cons_zero, List.set_cons_succ]
  refine take_p 6 41 (.slice a m c) rfl rfl (by kernel_rfl) (by kernel_rfl) (by kernel_rfl) (fun _ _ _ h => h) rfl (fun w => by go_simp) ?_
  try simp only [List.setIfInBounds_toArray, List.set_cons_zero, List.set_cons_succ]
  refine take_p 7 42 (.slice ar mr cr) rfl rfl (by kernel_rfl) (by kernel_rfl) (by kernel_rfl) (fun _ _ _ h => h) rfl (fun w => by go_simp) ?_
  try simp only [List.setIfInBounds_toArray, List.set_cons_zero, List.set_cons_succ]
  refine take_p 8 43 (.slice av N cb) rfl rfl (by kernel_rfl) (by kernel_rfl) (by kernel_rfl) (fun _ _ _ h => h) rfl (fun w => by go_simp) ?_
  try simp only [List.setIfInBounds_toArray, List.set_cons_zero, List.set_cons_succ]
  refine ready_f 4 (o := { dst := some 39, op := Op.call { callee := Callee.value (Operand.func 18), args := #[Operand.tmp 35, Operand.tmp 36, Operand.tmp 37, Operand.tmp 38], argTypes := #[28, 45, 45, 40] }, type := 4, pos := "law.go:107", after := #[{ on := 0, ground := Ground.data }, { on := 1, ground := Ground.data }, { on := 2, ground := Ground.data }, { on := 3, ground := Ground.data }], guard := none }) (by kernel_rfl) rfl (fun K hK => ?_)
  go_simp
  refine (kJ _ (HV.out.below hS (Nat.le_refl _)) (HS.out.below hS (Nat.le_refl _)) (HR.out.below hS (Nat.le_refl _))).out.mono ?_
  rintro e w1 ⟨rfl, hb1⟩
  have hS1 : Below V.heap.size V w1 := hS.trans (hb1.mono hS.size)
  refine hK.out _ _ (fun _ _ => hS1) ?_
  clear hK K
  try simp only [Act.put, List.setIfInBounds_toArray, List.set_cons_zero, List.set_cons_succ]
  refine ready_f 9 (o := { dst := some 44, op := Op.call { callee := Callee.value (Operand.func 17), args := #[Operand.tmp 40, Operand.tmp 41, Operand.tmp 42, Operand.tmp 43], argTypes := #[28, 45, 45, 25] }, type := 4, pos := "law.go:107", after := #[{ on := 5, ground := Ground.data }, { on := 6, ground := Ground.data }, { on := 7, ground := Ground.data }, { on := 8, ground := Ground.data }, { on := 4, ground := Ground.chain }], guard := none }) (by kernel_rfl) rfl (fun K hK => ?_)
  go_simp
  refine (kQ _ (HB.out.below hS1 (Nat.le_refl _)) (HS.out.below hS1 (Nat.le_refl _)) (HR.out.below hS1 (Nat.le_refl _))).out.mono ?_
  rintro e w2 ⟨rfl, hb2⟩
  have hS2 : Below V.heap.size V w2 := hS1.trans (hb2.mono hS1.size)
  refine hK.out _ _ (fun _ _ => hS2) ?_
  clear hK K
  try simp only [Act.put, List.setIfInBounds_toArray, List.set_cons_zero, List.set_cons_succ]
  refine take_p 10 45 (.bool false) rfl rfl (by kernel_rfl) (by kernel_rfl) (by kernel_rfl) (fun _ _ _ h => h) rfl (fun w => by go_simp) ?_
  try simp only [List.setIfInBounds_toArray, List.set_cons_zero, List.set_cons_succ]
  refine done_f (by kernel_rfl) ?_ _
  have A3 := hide1 (A2.out.to hS2)
  have XV3 := hide1 ((hS2.block _ (T.lt_heap XV.out)).trans XV.out)
  have HV3 := hide1 (HV.out.below hS2 (Nat.le_refl _))
  have HR3 := hide1 (HR.out.below hS2 (Nat.le_refl _))
  have HB3 := hide1 (HB.out.below hS2 (Nat.le_refl _))
  have HLT : Shy (∀ j p, R j p < 18446744073709551616) := ⟨HR.out.lt⟩
  clear kJ kQ CD CV hS hS1 hb1 hb2 A2 XV HV HS HR HB hS2 V
  obtain ⟨M, hM⟩ : ∃ M, M = mkR d0 d1 R ch t := ⟨_, rfl⟩
  have HM := hide1 hM
  have HML : Shy (∀ j p, M j p < 18446744073709551616) := ⟨by rw [hM]; exact mkR_lt d0 d1 R ch t HLT.out hd0 hd1⟩
  obtain ⟨K, hK1, hK2, hK3⟩ : ∃ K, K ≤ mr ∧ K ≤ N ∧ (K = mr ∨ K = N) := ⟨min mr N, by omega, by omega, by omega⟩
  clear hM
  go_wp2
  go_loopw [13, 14] (fun ov iv wr => ∃ k : Nat, k ≤ K ∧ iv = .int .i64 k ∧ wr.ownsRow w2.heap.size 28 2 ov k (T.rcs M k) ∧ Below w2.heap.size w2 wr) (fun _ iv _ => K - (intOf iv).toNat)
  case atStart => exact ⟨0, Nat.zero_le _, rfl, World.ownsRow_nil _ _ _ _, Below.refl _ _⟩
  case round =>
    obtain ⟨k, hk, rfl, hown, hbe⟩ := hrel
    obtain ⟨la, lc, rfl⟩ := T.row_form hown
    have HO := hide1 hown
    have HBE := hide1 hbe
    clear hown
    by_cases hlt : k < K
    · have l1 : (k : Int) < (mr : Int) := by omega
      have l2 : (k : Int) < (N : Int) := by omega
      obtain ⟨gr, o2, rfl, e0, e1⟩ := HR3.out.at' k (by omega)
      have hlc : k < ch.length := by rw [HB3.out.len]; omega
      obtain ⟨gc, o3, rfl, z0⟩ := HB3.out.at' k (ch[k]'hlc) (List.getElem?_eq_getElem hlc)
      have z0' : w2.cell? ⟨gc, o3 + k, none⟩ = some (.bool (ch.getD k false)) := by rw [z0, List.getD_eq_getElem?_getD, List.getElem?_eq_getElem hlc]; rfl
      obtain ⟨x0, hx0⟩ : ∃ x, x = R k 0 := ⟨_, rfl⟩
      obtain ⟨x1, hx1⟩ : ∃ x, x = R k 1 := ⟨_, rfl⟩
      obtain ⟨cj, hcj⟩ : ∃ x, x = ch.getD k false := ⟨_, rfl⟩
      have hl0 : x0 < 18446744073709551616 := by rw [hx0]; exact HLT.out k 0
      have hl1 : x1 < 18446744073709551616 := by rw [hx1]; exact HLT.out k 1
      have HMK : Hid (M k 0 = x0 ^^^ tm cj d0 ∧ M k 1 = flip t k (x1 ^^^ tm cj d1)) := by rw [hx0, hx1, hcj, HM.out]; exact ⟨rfl, rfl⟩
      rw [← hx0] at e0
      rw [← hx1] at e1
      rw [← hcj] at z0'
      have c0 := (hbe.cell (p := ⟨gr, o2 + k * 2, none⟩) (T.lt_cell e0)).trans e0
      have c1 := (hbe.cell (p := ⟨gr, o2 + k * 2 + 1, none⟩) (T.lt_cell e1)).trans e1
      have c2 := (hbe.cell (p := ⟨gc, o3 + k, none⟩) (T.lt_cell z0')).trans z0'
      obtain ⟨gb, hgb⟩ : ∃ g, g = wr.heap.size := ⟨_, rfl⟩
      obtain ⟨W4, hW4⟩ : ∃ W, W = wr.alloc (.cells #[.int .u64 (x0 : Int), .int .u64 (x1 : Int)] 28) := ⟨_, rfl⟩
      have hb4 : Below wr.heap.size wr W4 := by rw [hW4]; exact T.below_alloc1 _ _
      have c3 := (hb4.cell (p := ⟨gc, o3 + k, none⟩) (T.lt_cell c2)).trans c2
      have HX : Hid (W4.heap[gb]? = some (.cells #[.int .u64 (x0 : Int), .int .u64 (x1 : Int)] 28 (0, 0))) := by rw [hW4, hgb]; exact heap_alloc_new _ _
      have HO4 : Hid (W4.ownsRow w2.heap.size 28 2 (.slice la k lc) k (T.rcs M k)) := by rw [hW4]; exact HO.out.alloc _
      have HNB : Hid ((Value.slice la k lc).ownBlock ≠ some gb) := fun h => by have := (HO.out.lt gb h).2; omega
      have HBE4 := hide1 (HBE.out.trans (hb4.mono HBE.out.size))
      have AD : Hid (W4.heap[w.heap.size]? = some (row2 d0 d1)) := (HBE4.out.block _ (T.lt_heap A3.out.h1)).trans A3.out.h1
      have HG : Shy (w.heap.size < gb ∧ w2.heap.size ≤ gb) := ⟨by have := A3.out.lt; have := hbe.size; omega⟩
      have u0 := u64_xor_nat x0 d0 hl0 hd0
      have u1 := u64_xor_nat x1 d1 hl1 hd1
      clear hx0 hx1 hcj
      go_upto_region 11 with (fail)
      rw [← hgb, ← hW4]
      clear hW4 hgb hb4 hbe e0 e1 z0 z0' hlc c0 c1 c2 HO HBE HR3 HB3 HV3 XV3
      cases cj with
      | true =>
        go_upto_region 12 with (fail)
        refine region_f (F := [13]) (S := fun W' => (W'.heap[w.heap.size]? = some (row2 d0 d1) ∧ ∃ v, W'.heap[gb]? = some (.cells #[v, .int .u64 (x1 : Int)] 28 (0, 0)))) (by kernel_rfl) ⟨AD.out, _, HX.out⟩ (fun hS => ?_)
        refine take_p 0 66 (.pointer (some ⟨gb, 0, none⟩)) rfl rfl (by kernel_rfl) (by kernel_rfl) (by kernel_rfl) (fun _ _ _ h => h) rfl (fun w => by go_simp) ?_
        try simp only [List.setIfInBounds_toArray, List.set_cons_zero, List.set_cons_succ]
        refine take_p 2 68 (.pointer (some ⟨w.heap.size, 0, none⟩)) rfl rfl (by kernel_rfl) (by kernel_rfl) (by kernel_rfl) (fun _ _ _ h => h) rfl (fun w => by go_simp) ?_
        try simp only [List.setIfInBounds_toArray, List.set_cons_zero, List.set_cons_succ]
        refine take_f 3 69 (.int .u64 (d0 : Int)) [4, 10, 11, 12, 13] rfl rfl (by kernel_rfl) (by kernel_rfl) (by kernel_rfl) (by kernel_rfl) (by kernel_rfl) (by kernel_rfl) (fun _ _ _ h => h) rfl (fun w hSw => by have h1 := (T.box2 hSw.1).1; go_simp) hS ?_
        try simp only [List.setIfInBounds_toArray, List.set_cons_zero, List.set_cons_succ]
        refine take_p 5 71 (.pointer (some ⟨gb, 1, none⟩)) rfl rfl (by kernel_rfl) (by kernel_rfl) (by kernel_rfl) (fun _ _ _ h => h) rfl (fun w => by go_simp) ?_
        try simp only [List.setIfInBounds_toArray, List.set_cons_zero, List.set_cons_succ]
        refine take_f 6 72 (.int .u64 (x1 : Int)) [9, 10, 11, 12, 13] rfl rfl (by kernel_rfl) (by kernel_rfl) (by kernel_rfl) (by kernel_rfl) (by kernel_rfl) (by kernel_rfl) (fun _ _ _ h => h) rfl (fun w hSw => by obtain ⟨_, _, h0⟩ := hSw; have h1 := (T.box2 h0).2.1; go_simp) hS ?_
        try simp only [List.setIfInBounds_toArray, List.set_cons_zero, List.set_cons_succ]
        refine take_p 7 73 (.pointer (some ⟨w.heap.size, 1, none⟩)) rfl rfl (by kernel_rfl) (by kernel_rfl) (by kernel_rfl) (fun _ _ _ h => h) rfl (fun w => by go_simp) ?_
        try simp only [List.setIfInBounds_toArray, List.set_cons_zero, List.set_cons_succ]
        refine take_f 8 74 (.int .u64 (d1 : Int)) [9, 12, 13] rfl rfl (by kernel_rfl) (by kernel_rfl) (by kernel_rfl) (by kernel_rfl) (by kernel_rfl) (by kernel_rfl) (fun _ _ _ h => h) rfl (fun w hSw => by have h1 := (T.box2 hSw.1).2.1; go_simp) hS ?_
        try simp only [List.setIfInBounds_toArray, List.set_cons_zero, List.set_cons_succ]
        refine take_p 9 75 (.int .u64 ((x1 ^^^ d1 : Nat) : Int)) rfl rfl (by kernel_rfl) (by kernel_rfl) (by kernel_rfl) (fun _ _ _ h => h) rfl (fun w => by go_simp) ?_
        try simp only [List.setIfInBounds_toArray, List.set_cons_zero, List.set_cons_succ]
        refine ready_f 1 (o := { dst := some 67, op := Op.load 24 (Operand.tmp 66), type := 24, pos := "law.go:114", after := #[{ on := 0, ground := Ground.data }], guard := none }) (by kernel_rfl) rfl (fun K hK => ?_)
        have h1 := (T.box2 HX.out).1
        have h2 : W4.drew.cell? ⟨gb, 0, none⟩ = _ := h1
        go_simp
        refine hK.out _ _ (fun _ h => h) ?_
        clear h1 h2
        clear hK K
        try simp only [Act.put, List.setIfInBounds_toArray, List.set_cons_zero, List.set_cons_succ]
        refine take_p 4 70 (.int .u64 ((x0 ^^^ d0 : Nat) : Int)) rfl rfl (by kernel_rfl) (by kernel_rfl) (by kernel_rfl) (fun _ _ _ h => h) rfl (fun w => by go_simp) ?_
        try simp only [List.setIfInBounds_toArray, List.set_cons_zero, List.set_cons_succ]
        refine take_p 10 76 (.pointer (some ⟨gb, 0, none⟩)) rfl rfl (by kernel_rfl) (by kernel_rfl) (by kernel_rfl) (fun _ _ _ h => h) rfl (fun w => by go_simp) ?_
        try simp only [List.setIfInBounds_toArray, List.set_cons_zero, List.set_cons_succ]
        refine ready_f 11 (o := { dst := none, op := Op.store 24 (Operand.tmp 76) (Operand.tmp 70), type := 0, pos := "law.go:114", after := #[{ on := 10, ground := Ground.data }, { on := 4, ground := Ground.data }, { on := 0, ground := Ground.phase }, { on := 1, ground := Ground.phase }, { on := 2, ground := Ground.phase }, { on := 3, ground := Ground.phase }, { on := 4, ground := Ground.phase }, { on := 5, ground := Ground.phase }, { on := 6, ground := Ground.phase }, { on := 7, ground := Ground.textOnly Departure.lateStores }, { on := 8, ground := Ground.textOnly Departure.lateStores }, { on := 9, ground := Ground.textOnly Departure.lateStoresUnsure }], guard := none }) (by kernel_rfl) rfl (fun K hK => ?_)
        have h1 : W4.drew.cell? ⟨gb, 0, none⟩ = _ := (T.box2 HX.out).1
        have h2 : W4.drew.frozen? ⟨gb, 0, none⟩ = false := (T.box2 HX.out).2.2.1
        go_simp
        refine hK.out _ _ (fun _ h => ⟨(heap_setCell_other _ _ _ _ (by have := HG.out; simp; omega)).trans h.1, _, heap_setCell_same _ gb 0 _ _ _ h.2.choose_spec⟩) ?_
        clear h1 h2
        clear hK K
        refine take_p 12 77 (.pointer (some ⟨gb, 1, none⟩)) rfl rfl (by kernel_rfl) (by kernel_rfl) (by kernel_rfl) (fun _ _ _ h => h) rfl (fun w => by go_simp) ?_
        try simp only [List.setIfInBounds_toArray, List.set_cons_zero, List.set_cons_succ]
        refine ready_f 13 (o := { dst := none, op := Op.store 24 (Operand.tmp 77) (Operand.tmp 75), type := 0, pos := "law.go:114", after := #[{ on := 12, ground := Ground.data }, { on := 9, ground := Ground.data }, { on := 11, ground := Ground.chain }, { on := 0, ground := Ground.phase }, { on := 1, ground := Ground.phase }, { on := 2, ground := Ground.phase }, { on := 3, ground := Ground.phase }, { on := 4, ground := Ground.phase }, { on := 5, ground := Ground.phase }, { on := 6, ground := Ground.phase }, { on := 7, ground := Ground.phase }, { on := 8, ground := Ground.phase }, { on := 9, ground := Ground.phase }, { on := 10, ground := Ground.phase }, { on := 11, ground := Ground.phase }], guard := none }) (by kernel_rfl) rfl (fun K hK => ?_)
        have h9 := heap_setCell_same W4 gb 0 _ _ (.int .u64 ((x0 ^^^ d0 : Nat) : Int)) HX.out
        have h1 : (W4.setCell ⟨gb, 0, none⟩ (.int .u64 ((x0 ^^^ d0 : Nat) : Int))).drew.cell? ⟨gb, 1, none⟩ = _ := (T.box2 h9).2.1
        have h2 : (W4.setCell ⟨gb, 0, none⟩ (.int .u64 ((x0 ^^^ d0 : Nat) : Int))).drew.frozen? ⟨gb, 1, none⟩ = false := (T.box2 h9).2.2.2.1
        go_simp
        refine hK.out _ _ (fun h => absurd (by decide) h) ?_
        clear h1 h2 h9
        clear hK K
        refine done_f (by kernel_rfl) ?_ _
        have q0 := heap_setCell_same W4 gb 0 _ _ (.int .u64 ((x0 ^^^ d0 : Nat) : Int)) HX.out
        have q1 := heap_setCell_same _ gb 1 _ _ (.int .u64 ((x1 ^^^ d1 : Nat) : Int)) q0
        have hzl0 := xor_lt hl0 hd0
        have hzl1 := xor_lt hl1 hd1
        have HZ : Hid (M k 0 = x0 ^^^ d0 ∧ M k 1 = flip t k (x1 ^^^ d1)) := HMK.out
        obtain ⟨z0, hz0'⟩ : ∃ z, z = x0 ^^^ d0 := ⟨_, rfl⟩
        obtain ⟨z1, hz1'⟩ : ∃ z, z = x1 ^^^ d1 := ⟨_, rfl⟩
        rw [← hz0', ← hz1'] at q1 HZ ⊢
        rw [← hz0'] at hzl0
        rw [← hz1'] at hzl1
        have HX5 : Hid (((W4.setCell ⟨gb, 0, none⟩ (.int .u64 (z0 : Int))).setCell ⟨gb, 1, none⟩ (.int .u64 (z1 : Int))).drew.heap[gb]? = some (.cells #[.int .u64 (z0 : Int), .int .u64 (z1 : Int)] 28 (0, 0))) := q1
        have HO5 := hide1 (ownsRow_setCell_other (ownsRow_setCell_other HO4.out (a := ⟨gb, 0, none⟩) HNB.out (.int .u64 (z0 : Int))) (a := ⟨gb, 1, none⟩) HNB.out (.int .u64 (z1 : Int))).drew
        have HBE5 := hide1 ((HBE4.out.setCell (show w2.heap.size ≤ (⟨gb, 0, none⟩ : Addr).block from HG.out.2) (.int .u64 (z0 : Int))).setCell (show w2.heap.size ≤ (⟨gb, 1, none⟩ : Addr).block from HG.out.2) (.int .u64 (z1 : Int))).drew
        clear q0 q1 hS hz0' hz1' u0 u1 HO4 HBE4 AD HX HMK hl0 hl1
        generalize World.drew _ = W5 at *
        cases t with
        | true =>
          by_cases hk0 : k = 0
          · subst hk0
            have u2 : bits .xor .u64 (z1 : Int) 9223372036854775808 = ((z1 ^^^ 9223372036854775808 : Nat) : Int) := u64_xor_nat z1 9223372036854775808 hzl1 (by omega)
            obtain ⟨f0, f1, f2, f3, f4⟩ := T.box2 HX5.out
            go_upto_region 15 with (fail)
            have HX6 : Hid ((W5.setCell ⟨gb, 1, none⟩ (.int .u64 ((z1 ^^^ 9223372036854775808 : Nat) : Int))).heap[gb]? = some (.cells #[.int .u64 (z0 : Int), .int .u64 ((z1 ^^^ 9223372036854775808 : Nat) : Int)] 28 (0, 0))) := heap_setCell_same _ gb 1 _ _ _ HX5.out
            have HO6 := hide1 (ownsRow_setCell_other HO5.out (a := ⟨gb, 1, none⟩) HNB.out (.int .u64 ((z1 ^^^ 9223372036854775808 : Nat) : Int)))
            have HBE6 := hide1 (HBE5.out.setCell (show w2.heap.size ≤ (⟨gb, 1, none⟩ : Addr).block from HG.out.2) (.int .u64 ((z1 ^^^ 9223372036854775808 : Nat) : Int)))
            have HY : Hid (M 0 0 = z0 ∧ M 0 1 = z1 ^^^ 9223372036854775808) := HZ.out
            obtain ⟨y0, hy0⟩ : ∃ y, y = z0 := ⟨_, rfl⟩
            obtain ⟨y1, hy1⟩ : ∃ y, y = z1 ^^^ 9223372036854775808 := ⟨_, rfl⟩
            rw [← hy1] at HX6 HO6 HBE6 HY ⊢
            clear f0 f1 f2 f3 f4 HX5 HO5 HBE5 HZ u2
            generalize World.setCell _ _ _ = W6 at *
            subst hy0
            clear hy1
            obtain ⟨f0, f1, f2, f3, f4⟩ := T.box2 HX6.out
            have O6 := hide1 (HO6.out.alloc (.cells #[.int .u64 (y0 : Int), .int .u64 (y1 : Int)] 28))
            have B6 : Hid (Below w2.heap.size w2 (W6.alloc (.cells #[.int .u64 (y0 : Int), .int .u64 (y1 : Int)] 28))) := HBE6.out.alloc HBE6.out.size _
            have hsz6 := HBE6.out.size
            go_wp2_with (at_builtin; go_must (refine wpList_append_lies _ rfl _ _ 45 rfl w2.heap.size 28 i0 (.agg #[.int .u64 0, .int .u64 0]) 2 16 Try.underlying45 hi0 hz0 hz1 hz2 rfl (by decide) _ _ _ rfl O6.out ⟨W6.heap.size, 0, none⟩ 1 1 [.int .u64 (y0 : Int), .int .u64 (y1 : Int)] rfl rfl (T.two_new _ _ _ _) (by simp [Value.oneCell']) (by decide) (by unfold maxLen; omega) (by omega) (by simp; omega) (W6.heap.size + 1) (by simp) ?_); intro g9 cap9 w9 hown9 hgrow9 hlies9 _)
            go_roundw
            case rel =>
              rw [← HY.out.1, ← HY.out.2, ← rcs_succ] at hown9
              exact ⟨0 + 1, by omega, by go_num, hown9, B6.out.grown hgrow9 (by simp; omega) (fun b hb => (O6.out.lt b hb).1)⟩
            case measure => simp [intOf]; omega
          · have hk0' : ¬ (k : Int) = 0 := by omega
            have HY : Hid (M k 0 = z0 ∧ M k 1 = z1) := by have := HZ.out; rwa [flip, if_neg (fun h => hk0 h.2)] at this
            go_upto_region 15 with (fail)
            obtain ⟨y0, hy0⟩ : ∃ y, y = z0 := ⟨_, rfl⟩
            obtain ⟨y1, hy1⟩ : ∃ y, y = z1 := ⟨_, rfl⟩
            obtain ⟨W6, hW6⟩ : ∃ W, W = W5 := ⟨_, rfl⟩
            subst hy0 hy1 hW6
            have HX6 := HX5
            have HO6 := HO5
            have HBE6 := HBE5
            clear HX5 HO5 HBE5 HZ
            obtain ⟨f0, f1, f2, f3, f4⟩ := T.box2 HX6.out
            have O6 := hide1 (HO6.out.alloc (.cells #[.int .u64 (y0 : Int), .int .u64 (y1 : Int)] 28))
            have B6 : Hid (Below w2.heap.size w2 (W6.alloc (.cells #[.int .u64 (y0 : Int), .int .u64 (y1 : Int)] 28))) := HBE6.out.alloc HBE6.out.size _
            have hsz6 := HBE6.out.size
            go_wp2_with (at_builtin; go_must (refine wpList_append_lies _ rfl _ _ 45 rfl w2.heap.size 28 i0 (.agg #[.int .u64 0, .int .u64 0]) 2 16 Try.underlying45 hi0 hz0 hz1 hz2 rfl (by decide) _ _ _ rfl O6.out ⟨W6.heap.size, 0, none⟩ 1 1 [.int .u64 (y0 : Int), .int .u64 (y1 : Int)] rfl rfl (T.two_new _ _ _ _) (by simp [Value.oneCell']) (by decide) (by unfold maxLen; omega) (by omega) (by simp; omega) (W6.heap.size + 1) (by simp) ?_); intro g9 cap9 w9 hown9 hgrow9 hlies9 _)
            go_roundw
            case rel =>
              rw [← HY.out.1, ← HY.out.2, ← rcs_succ] at hown9
              exact ⟨k + 1, by omega, by go_num, hown9, B6.out.grown hgrow9 (by simp; omega) (fun b hb => (O6.out.lt b hb).1)⟩
            case measure => simp [intOf]; omega
        | false =>
          have HY : Hid (M k 0 = z0 ∧ M k 1 = z1) := by have := HZ.out; rwa [flip, if_neg (fun h => by cases h.1)] at this
          go_upto_region 15 with (fail)
          obtain ⟨y0, hy0⟩ : ∃ y, y = z0 := ⟨_, rfl⟩
          obtain ⟨y1, hy1⟩ : ∃ y, y = z1 := ⟨_, rfl⟩
          obtain ⟨W6, hW6⟩ : ∃ W, W = W5 := ⟨_, rfl⟩
          subst hy0 hy1 hW6
          have HX6 := HX5
          have HO6 := HO5
          have HBE6 := HBE5
          clear HX5 HO5 HBE5 HZ
          obtain ⟨f0, f1, f2, f3, f4⟩ := T.box2 HX6.out
          have O6 := hide1 (HO6.out.alloc (.cells #[.int .u64 (y0 : Int), .int .u64 (y1 : Int)] 28))
          have B6 : Hid (Below w2.heap.size w2 (W6.alloc (.cells #[.int .u64 (y0 : Int), .int .u64 (y1 : Int)] 28))) := HBE6.out.alloc HBE6.out.size _
          have hsz6 := HBE6.out.size
          go_wp2_with (at_builtin; go_must (refine wpList_append_lies _ rfl _ _ 45 rfl w2.heap.size 28 i0 (.agg #[.int .u64 0, .int .u64 0]) 2 16 Try.underlying45 hi0 hz0 hz1 hz2 rfl (by decide) _ _ _ rfl O6.out ⟨W6.heap.size, 0, none⟩ 1 1 [.int .u64 (y0 : Int), .int .u64 (y1 : Int)] rfl rfl (T.two_new _ _ _ _) (by simp [Value.oneCell']) (by decide) (by unfold maxLen; omega) (by omega) (by simp; omega) (W6.heap.size + 1) (by simp) ?_); intro g9 cap9 w9 hown9 hgrow9 hlies9 _)
          go_roundw
          case rel =>
            rw [← HY.out.1, ← HY.out.2, ← rcs_succ] at hown9
            exact ⟨k + 1, by omega, by go_num, hown9, B6.out.grown hgrow9 (by simp; omega) (fun b hb => (O6.out.lt b hb).1)⟩
          case measure => simp [intOf]; omega
      | false =>
        have HZ : Hid (M k 0 = x0 ∧ M k 1 = flip t k x1) := by have := HMK.out; rwa [show tm false d0 = 0 from rfl, show tm false d1 = 0 from rfl, Nat.xor_zero, Nat.xor_zero] at this
        obtain ⟨z0, hz0'⟩ : ∃ z, z = x0 := ⟨_, rfl⟩
        obtain ⟨z1, hz1'⟩ : ∃ z, z = x1 := ⟨_, rfl⟩
        obtain ⟨W5, hW5⟩ : ∃ W, W = W4 := ⟨_, rfl⟩
        clear u0 u1 AD HMK
        subst hz0' hz1' hW5
        go_upto_region 13 with (fail)
        have HX5 := HX
        have HO5 := HO4
        have HBE5 := HBE4
        have hzl0 := hl0
        have hzl1 := hl1
        clear HX HO4 HBE4 hl0 hl1
        cases t with
        | true =>
          by_cases hk0 : k = 0
          · subst hk0
            have u2 : bits .xor .u64 (z1 : Int) 9223372036854775808 = ((z1 ^^^ 9223372036854775808 : Nat) : Int) := u64_xor_nat z1 9223372036854775808 hzl1 (by omega)
            obtain ⟨f0, f1, f2, f3, f4⟩ := T.box2 HX5.out
            go_upto_region 15 with (fail)
            have HX6 : Hid ((W5.setCell ⟨gb, 1, none⟩ (.int .u64 ((z1 ^^^ 9223372036854775808 : Nat) : Int))).heap[gb]? = some (.cells #[.int .u64 (z0 : Int), .int .u64 ((z1 ^^^ 9223372036854775808 : Nat) : Int)] 28 (0, 0))) := heap_setCell_same _ gb 1 _ _ _ HX5.out
            have HO6 := hide1 (ownsRow_setCell_other HO5.out (a := ⟨gb, 1, none⟩) HNB.out (.int .u64 ((z1 ^^^ 9223372036854775808 : Nat) : Int)))
            have HBE6 := hide1 (HBE5.out.setCell (show w2.heap.size ≤ (⟨gb, 1, none⟩ : Addr).block from HG.out.2) (.int .u64 ((z1 ^^^ 9223372036854775808 : Nat) : Int)))
            have HY : Hid (M 0 0 = z0 ∧ M 0 1 = z1 ^^^ 9223372036854775808) := HZ.out
            obtain ⟨y0, hy0⟩ : ∃ y, y = z0 := ⟨_, rfl⟩
            obtain ⟨y1, hy1⟩ : ∃ y, y = z1 ^^^ 9223372036854775808 := ⟨_, rfl⟩
            rw [← hy1] at HX6 HO6 HBE6 HY ⊢
            clear f0 f1 f2 f3 f4 HX5 HO5 HBE5 HZ u2
            generalize World.setCell _ _ _ = W6 at *
            subst hy0
            clear hy1
            obtain ⟨f0, f1, f2, f3, f4⟩ := T.box2 HX6.out
            have O6 := hide1 (HO6.out.alloc (.cells #[.int .u64 (y0 : Int), .int .u64 (y1 : Int)] 28))
            have B6 : Hid (Below w2.heap.size w2 (W6.alloc (.cells #[.int .u64 (y0 : Int), .int .u64 (y1 : Int)] 28))) := HBE6.out.alloc HBE6.out.size _
            have hsz6 := HBE6.out.size
            go_wp2_with (at_builtin; go_must (refine wpList_append_lies _ rfl _ _ 45 rfl w2.heap.size 28 i0 (.agg #[.int .u64 0, .int .u64 0]) 2 16 Try.underlying45 hi0 hz0 hz1 hz2 rfl (by decide) _ _ _ rfl O6.out ⟨W6.heap.size, 0, none⟩ 1 1 [.int .u64 (y0 : Int), .int .u64 (y1 : Int)] rfl rfl (T.two_new _ _ _ _) (by simp [Value.oneCell']) (by decide) (by unfold maxLen; omega) (by omega) (by simp; omega) (W6.heap.size + 1) (by simp) ?_); intro g9 cap9 w9 hown9 hgrow9 hlies9 _)
            go_roundw
            case rel =>
              rw [← HY.out.1, ← HY.out.2, ← rcs_succ] at hown9
              exact ⟨0 + 1, by omega, by go_num, hown9, B6.out.grown hgrow9 (by simp; omega) (fun b hb => (O6.out.lt b hb).1)⟩
            case measure => simp [intOf]; omega
          · have hk0' : ¬ (k : Int) = 0 := by omega
            have HY : Hid (M k 0 = z0 ∧ M k 1 = z1) := by have := HZ.out; rwa [flip, if_neg (fun h => hk0 h.2)] at this
            go_upto_region 15 with (fail)
            obtain ⟨y0, hy0⟩ : ∃ y, y = z0 := ⟨_, rfl⟩
            obtain ⟨y1, hy1⟩ : ∃ y, y = z1 := ⟨_, rfl⟩
            obtain ⟨W6, hW6⟩ : ∃ W, W = W5 := ⟨_, rfl⟩
            subst hy0 hy1 hW6
            have HX6 := HX5
            have HO6 := HO5
            have HBE6 := HBE5
            clear HX5 HO5 HBE5 HZ
            obtain ⟨f0, f1, f2, f3, f4⟩ := T.box2 HX6.out
            have O6 := hide1 (HO6.out.alloc (.cells #[.int .u64 (y0 : Int), .int .u64 (y1 : Int)] 28))
            have B6 : Hid (Below w2.heap.size w2 (W6.alloc (.cells #[.int .u64 (y0 : Int), .int .u64 (y1 : Int)] 28))) := HBE6.out.alloc HBE6.out.size _
            have hsz6 := HBE6.out.size
            go_wp2_with (at_builtin; go_must (refine wpList_append_lies _ rfl _ _ 45 rfl w2.heap.size 28 i0 (.agg #[.int .u64 0, .int .u64 0]) 2 16 Try.underlying45 hi0 hz0 hz1 hz2 rfl (by decide) _ _ _ rfl O6.out ⟨W6.heap.size, 0, none⟩ 1 1 [.int .u64 (y0 : Int), .int .u64 (y1 : Int)] rfl rfl (T.two_new _ _ _ _) (by simp [Value.oneCell']) (by decide) (by unfold maxLen; omega) (by omega) (by simp; omega) (W6.heap.size + 1) (by simp) ?_); intro g9 cap9 w9 hown9 hgrow9 hlies9 _)
            go_roundw
            case rel =>
              rw [← HY.out.1, ← HY.out.2, ← rcs_succ] at hown9
              exact ⟨k + 1, by omega, by go_num, hown9, B6.out.grown hgrow9 (by simp; omega) (fun b hb => (O6.out.lt b hb).1)⟩
            case measure => simp [intOf]; omega
        | false =>
          have HY : Hid (M k 0 = z0 ∧ M k 1 = z1) := by have := HZ.out; rwa [flip, if_neg (fun h => by cases h.1)] at this
          go_upto_region 15 with (fail)
          obtain ⟨y0, hy0⟩ : ∃ y, y = z0 := ⟨_, rfl⟩
          obtain ⟨y1, hy1⟩ : ∃ y, y = z1 := ⟨_, rfl⟩
          obtain ⟨W6, hW6⟩ : ∃ W, W = W5 := ⟨_, rfl⟩
          subst hy0 hy1 hW6
          have HX6 := HX5
          have HO6 := HO5
          have HBE6 := HBE5
          clear HX5 HO5 HBE5 HZ
          obtain ⟨f0, f1, f2, f3, f4⟩ := T.box2 HX6.out
          have O6 := hide1 (HO6.out.alloc (.cells #[.int .u64 (y0 : Int), .int .u64 (y1 : Int)] 28))
          have B6 : Hid (Below w2.heap.size w2 (W6.alloc (.cells #[.int .u64 (y0 : Int), .int .u64 (y1 : Int)] 28))) := HBE6.out.alloc HBE6.out.size _
          have hsz6 := HBE6.out.size
          go_wp2_with (at_builtin; go_must (refine wpList_append_lies _ rfl _ _ 45 rfl w2.heap.size 28 i0 (.agg #[.int .u64 0, .int .u64 0]) 2 16 Try.underlying45 hi0 hz0 hz1 hz2 rfl (by decide) _ _ _ rfl O6.out ⟨W6.heap.size, 0, none⟩ 1 1 [.int .u64 (y0 : Int), .int .u64 (y1 : Int)] rfl rfl (T.two_new _ _ _ _) (by simp [Value.oneCell']) (by decide) (by unfold maxLen; omega) (by omega) (by simp; omega) (W6.heap.size + 1) (by simp) ?_); intro g9 cap9 w9 hown9 hgrow9 hlies9 _)
          go_roundw
          case rel =>
            rw [← HY.out.1, ← HY.out.2, ← rcs_succ] at hown9
            exact ⟨k + 1, by omega, by go_num, hown9, B6.out.grown hgrow9 (by simp; omega) (fun b hb => (O6.out.lt b hb).1)⟩
          case measure => simp [intOf]; omega
    · obtain rfl : k = K := by omega
      have CD : Hid (∀ W, Below wr.heap.size wr W → W.cell? ⟨w.heap.size, 0, none⟩ = some (.int .u64 (d0 : Int)) ∧ W.cell? ⟨w.heap.size, 1, none⟩ = some (.int .u64 (d1 : Int))) := fun W hW => by
        have h := T.box2 ((hW.block _ (T.lt_heap ((hbe.block _ (T.lt_heap A3.out.h1)).trans A3.out.h1))).trans ((hbe.block _ (T.lt_heap A3.out.h1)).trans A3.out.h1))
        exact ⟨h.1, h.2.1⟩
      have CV : Hid (∀ W, Below wr.heap.size wr W → W.cell? ⟨b3, 0, none⟩ = some (.int .i64 (N : Int)) ∧ W.cell? ⟨b3, 1, none⟩ = some (.slice ac (T.need N 64) (T.need N 64))) := fun W hW => by
        have h := T.box2 ((hW.block _ (T.lt_heap ((hbe.block _ (T.lt_heap XV3.out)).trans XV3.out))).trans ((hbe.block _ (T.lt_heap XV3.out)).trans XV3.out))
        exact ⟨h.1, h.2.1⟩
      have kJ2 := fun W h1 h2 h3 => hide1 (joined_any d0 d1 k mr N lc cr 0 la ar ac M R ch W h2 h3 h1 (by omega) (by omega) (by omega) hd0 hd1)
      have kQ2 := fun W h1 h2 h3 => hide1 (rjoined_any d0 d1 k mr N lc cr cb la ar av M R ch W h2 h3 h1 (by omega) (by omega) (by omega) hd0 hd1)
      generalize jn d0 d1 M R k mr N ch = J2 at kJ2 kQ2
      have HM2 := hide1 (own_rws HO.out HML.out)
      have HV2 := hide1 (HV3.out.below hbe (Nat.le_refl _))
      have HR2 := hide1 (HR3.out.below hbe (Nat.le_refl _))
      have HB2 := hide1 (HB3.out.below hbe (Nat.le_refl _))
      have AA := hide1 (A3.out.to hbe)
      clear HO HBE hbe HV3 HR3 HB3 A3 XV3 HM
      by_cases hq : k = mr
      · have l1 : ¬ (k : Int) < (mr : Int) := by omega
        clear hlt hq hK3
        go_upto_region 16 with (fail)
        refine region_f (F := []) (S := fun W' => Below wr.heap.size wr W') (by kernel_rfl) (Below.refl _ _).drew (fun hS => ?_)
        refine take_f 0 91 (.agg #[.int .u64 (d0 : Int), .int .u64 (d1 : Int)]) [4, 9, 10, 11, 12, 13, 14] rfl rfl (by kernel_rfl) (by kernel_rfl) (by kernel_rfl) (by kernel_rfl) (by kernel_rfl) (by kernel_rfl) (fun _ _ _ h => h) rfl (fun w hSw => by have h1 := (CD.out w hSw).1; have h2 := (CD.out w hSw).2; go_simp) hS ?_
        try simp only [List.setIfInBounds_toArray, List.set_cons_zero, List.set_cons_succ]
        refine take_p 1 92 (.slice la k lc) rfl rfl (by kernel_rfl) (by kernel_rfl) (by kernel_rfl) (fun _ _ _ h => h) rfl (fun w => by go_simp) ?_
        try simp only [List.setIfInBounds_toArray, List.set_cons_zero, List.set_cons_succ]
        refine take_p 2 93 (.slice ar mr cr) rfl rfl (by kernel_rfl) (by kernel_rfl) (by kernel_rfl) (fun _ _ _ h => h) rfl (fun w => by go_simp) ?_
        try simp only [List.setIfInBounds_toArray, List.set_cons_zero, List.set_cons_succ]
        refine take_f 3 94 (.agg #[.int .i64 (N : Int), .slice ac (T.need N 64) (T.need N 64)]) [4, 9, 10, 11, 12, 13, 14] rfl rfl (by kernel_rfl) (by kernel_rfl) (by kernel_rfl) (by kernel_rfl) (by kernel_rfl) (by kernel_rfl) (fun _ _ _ h => h) rfl (fun w hSw => by have h1 := (CV.out w hSw).1; have h2 := (CV.out w hSw).2; go_simp) hS ?_
        try simp only [List.setIfInBounds_toArray, List.set_cons_zero, List.set_cons_succ]
        refine take_f 5 96 (.agg #[.int .u64 (d0 : Int), .int .u64 (d1 : Int)]) [9, 10, 11, 12, 13, 14] rfl rfl (by kernel_rfl) (by kernel_rfl) (by kernel_rfl) (by kernel_rfl) (by kernel_rfl) (by kernel_rfl) (fun _ _ _ h => h) rfl (fun w hSw => by have h1 := (CD.out w hSw).1; have h2 := (CD.out w hSw).2; go_simp) hS ?_
        try simp only [List.setIfInBounds_toArray, List.set_cons_zero, List.set_cons_succ]
        refine take_p 6 97 (.slice la k lc) rfl rfl (by kernel_rfl) (by kernel_rfl) (by kernel_rfl) (fun _ _ _ h => h) rfl (fun w => by go_simp) ?_
        try simp only [List.setIfInBounds_toArray, List.set_cons_zero, List.set_cons_succ]
        refine take_p 7 98 (.slice ar mr cr) rfl rfl (by kernel_rfl) (by kernel_rfl) (by kernel_rfl) (fun _ _ _ h => h) rfl (fun w => by go_simp) ?_
        try simp only [List.setIfInBounds_toArray, List.set_cons_zero, List.set_cons_succ]
        refine take_p 8 99 (.slice av N cb) rfl rfl (by kernel_rfl) (by kernel_rfl) (by kernel_rfl) (fun _ _ _ h => h) rfl (fun w => by go_simp) ?_
        try simp only [List.setIfInBounds_toArray, List.set_cons_zero, List.set_cons_succ]
        refine ready_f 4 (o := { dst := some 95, op := Op.call { callee := Callee.value (Operand.func 18), args := #[Operand.tmp 91, Operand.tmp 92, Operand.tmp 93, Operand.tmp 94], argTypes := #[28, 45, 45, 40] }, type := 4, pos := "law.go:121", after := #[{ on := 0, ground := Ground.data }, { on := 1, ground := Ground.data }, { on := 2, ground := Ground.data }, { on := 3, ground := Ground.data }], guard := none }) (by kernel_rfl) rfl (fun K hK => ?_)
        go_simp
        refine (kJ2 _ (HV2.out.below hS (Nat.le_refl _)) (HM2.out.below hS (Nat.le_refl _)) (HR2.out.below hS (Nat.le_refl _))).out.mono ?_
        rintro e w1 ⟨rfl, hb1⟩
        have hS1 : Below wr.heap.size wr w1 := hS.trans (hb1.mono hS.size)
        refine hK.out _ _ (fun _ _ => hS1) ?_
        clear hK K
        try simp only [Act.put, List.setIfInBounds_toArray, List.set_cons_zero, List.set_cons_succ]
        refine ready_f 9 (o := { dst := some 100, op := Op.call { callee := Callee.value (Operand.func 17), args := #[Operand.tmp 96, Operand.tmp 97, Operand.tmp 98, Operand.tmp 99], argTypes := #[28, 45, 45, 25] }, type := 4, pos := "law.go:121", after := #[{ on := 5, ground := Ground.data }, { on := 6, ground := Ground.data }, { on := 7, ground := Ground.data }, { on := 8, ground := Ground.data }, { on := 4, ground := Ground.chain }], guard := none }) (by kernel_rfl) rfl (fun K hK => ?_)
        go_simp
        refine (kQ2 _ (HB2.out.below hS1 (Nat.le_refl _)) (HM2.out.below hS1 (Nat.le_refl _)) (HR2.out.below hS1 (Nat.le_refl _))).out.mono ?_
        rintro e w2 ⟨rfl, hb2⟩
        have hS2 : Below wr.heap.size wr w2 := hS1.trans (hb2.mono hS1.size)
        refine hK.out _ _ (fun _ _ => hS2) ?_
        clear hK K
        try simp only [Act.put, List.setIfInBounds_toArray, List.set_cons_zero, List.set_cons_succ]
        refine take_p 10 101 (.bool true) rfl rfl (by kernel_rfl) (by kernel_rfl) (by kernel_rfl) (fun _ _ _ h => h) rfl (fun w => by go_simp) ?_
        try simp only [List.setIfInBounds_toArray, List.set_cons_zero, List.set_cons_succ]
        refine take_p 11 102 (.bool true) rfl rfl (by kernel_rfl) (by kernel_rfl) (by kernel_rfl) (fun _ _ _ h => h) rfl (fun w => by go_simp) ?_
        try simp only [List.setIfInBounds_toArray, List.set_cons_zero, List.set_cons_succ]
        refine ready_f 12 (o := { dst := some 103, op := Op.call { callee := Callee.value (Operand.func 7), args := #[], argTypes := #[] }, type := 4, pos := "law.go:121", after := #[{ on := 11, ground := Ground.chain }, { on := 11, ground := Ground.guard }], guard := some (11, true) }) (by kernel_rfl) rfl (fun K hK => ?_)
        go_simp
        refine (kA _).out.mono ?_
        rintro e w3 ⟨rfl, hb3⟩
        have hS3 : Below wr.heap.size wr w3 := hS2.trans (hb3.mono hS2.size)
        refine hK.out _ _ (fun _ _ => hS3) ?_
        clear hK K
        try simp only [Act.put, List.setIfInBounds_toArray, List.set_cons_zero, List.set_cons_succ]
        refine take_p 13 104 (.bool true) rfl rfl (by kernel_rfl) (by kernel_rfl) (by kernel_rfl) (fun _ _ _ h => h) rfl (fun w => by go_simp) ?_
        try simp only [List.setIfInBounds_toArray, List.set_cons_zero, List.set_cons_succ]
        refine take_p 14 10 (.bool true) rfl rfl (by kernel_rfl) (by kernel_rfl) (by kernel_rfl) (fun _ _ _ h => h) rfl (fun w => by go_simp) ?_
        try simp only [List.setIfInBounds_toArray, List.set_cons_zero, List.set_cons_succ]
        refine done_f (by kernel_rfl) ?_ _
        go_wp2
        go_ret
        exact ⟨rfl, (AA.out.to hS3).bel⟩
      · have l1 : (k : Int) < (mr : Int) := by omega
        have l2 : ¬ (k : Int) < (N : Int) := by omega
        clear hlt hq hK3
        go_upto_region 16 with (fail)
        refine region_f (F := []) (S := fun W' => Below wr.heap.size wr W') (by kernel_rfl) (Below.refl _ _).drew (fun hS => ?_)
        refine take_f 0 91 (.agg #[.int .u64 (d0 : Int), .int .u64 (d1 : Int)]) [4, 9, 10, 11, 12, 13, 14] rfl rfl (by kernel_rfl) (by kernel_rfl) (by kernel_rfl) (by kernel_rfl) (by kernel_rfl) (by kernel_rfl) (fun _ _ _ h => h) rfl (fun w hSw => by have h1 := (CD.out w hSw).1; have h2 := (CD.out w hSw).2; go_simp) hS ?_
        try simp only [List.setIfInBounds_toArray, List.set_cons_zero, List.set_cons_succ]
        refine take_p 1 92 (.slice la k lc) rfl rfl (by kernel_rfl) (by kernel_rfl) (by kernel_rfl) (fun _ _ _ h => h) rfl (fun w => by go_simp) ?_
        try simp only [List.setIfInBounds_toArray, List.set_cons_zero, List.set_cons_succ]
        refine take_p 2 93 (.slice ar mr cr) rfl rfl (by kernel_rfl) (by kernel_rfl) (by kernel_rfl) (fun _ _ _ h => h) rfl (fun w => by go_simp) ?_
        try simp only [List.setIfInBounds_toArray, List.set_cons_zero, List.set_cons_succ]
        refine take_f 3 94 (.agg #[.int .i64 (N : Int), .slice ac (T.need N 64) (T.need N 64)]) [4, 9, 10, 11, 12, 13, 14] rfl rfl (by kernel_rfl) (by kernel_rfl) (by kernel_rfl) (by kernel_rfl) (by kernel_rfl) (by kernel_rfl) (fun _ _ _ h => h) rfl (fun w hSw => by have h1 := (CV.out w hSw).1; have h2 := (CV.out w hSw).2; go_simp) hS ?_
        try simp only [List.setIfInBounds_toArray, List.set_cons_zero, List.set_cons_succ]
        refine take_f 5 96 (.agg #[.int .u64 (d0 : Int), .int .u64 (d1 : Int)]) [9, 10, 11, 12, 13, 14] rfl rfl (by kernel_rfl) (by kernel_rfl) (by kernel_rfl) (by kernel_rfl) (by kernel_rfl) (by kernel_rfl) (fun _ _ _ h => h) rfl (fun w hSw => by have h1 := (CD.out w hSw).1; have h2 := (CD.out w hSw).2; go_simp) hS ?_
        try simp only [List.setIfInBounds_toArray, List.set_cons_zero, List.set_cons_succ]
        refine take_p 6 97 (.slice la k lc) rfl rfl (by kernel_rfl) (by kernel_rfl) (by kernel_rfl) (fun _ _ _ h => h) rfl (fun w => by go_simp) ?_
        try simp only [List.setIfInBounds_toArray, List.set_cons_zero, List.set_cons_succ]
        refine take_p 7 98 (.slice ar mr cr) rfl rfl (by kernel_rfl) (by kernel_rfl) (by kernel_rfl) (fun _ _ _ h => h) rfl (fun w => by go_simp) ?_
        try simp only [List.setIfInBounds_toArray, List.set_cons_zero, List.set_cons_succ]
        refine take_p 8 99 (.slice av N cb) rfl rfl (by kernel_rfl) (by kernel_rfl) (by kernel_rfl) (fun _ _ _ h => h) rfl (fun w => by go_simp) ?_
        try simp only [List.setIfInBounds_toArray, List.set_cons_zero, List.set_cons_succ]
        refine ready_f 4 (o := { dst := some 95, op := Op.call { callee := Callee.value (Operand.func 18), args := #[Operand.tmp 91, Operand.tmp 92, Operand.tmp 93, Operand.tmp 94], argTypes := #[28, 45, 45, 40] }, type := 4, pos := "law.go:121", after := #[{ on := 0, ground := Ground.data }, { on := 1, ground := Ground.data }, { on := 2, ground := Ground.data }, { on := 3, ground := Ground.data }], guard := none }) (by kernel_rfl) rfl (fun K hK => ?_)
        go_simp
        refine (kJ2 _ (HV2.out.below hS (Nat.le_refl _)) (HM2.out.below hS (Nat.le_refl _)) (HR2.out.below hS (Nat.le_refl _))).out.mono ?_
        rintro e w1 ⟨rfl, hb1⟩
        have hS1 : Below wr.heap.size wr w1 := hS.trans (hb1.mono hS.size)
        refine hK.out _ _ (fun _ _ => hS1) ?_
        clear hK K
        try simp only [Act.put, List.setIfInBounds_toArray, List.set_cons_zero, List.set_cons_succ]
        refine ready_f 9 (o := { dst := some 100, op := Op.call { callee := Callee.value (Operand.func 17), args := #[Operand.tmp 96, Operand.tmp 97, Operand.tmp 98, Operand.tmp 99], argTypes := #[28, 45, 45, 25] }, type := 4, pos := "law.go:121", after := #[{ on := 5, ground := Ground.data }, { on := 6, ground := Ground.data }, { on := 7, ground := Ground.data }, { on := 8, ground := Ground.data }, { on := 4, ground := Ground.chain }], guard := none }) (by kernel_rfl) rfl (fun K hK => ?_)
        go_simp
        refine (kQ2 _ (HB2.out.below hS1 (Nat.le_refl _)) (HM2.out.below hS1 (Nat.le_refl _)) (HR2.out.below hS1 (Nat.le_refl _))).out.mono ?_
        rintro e w2 ⟨rfl, hb2⟩
        have hS2 : Below wr.heap.size wr w2 := hS1.trans (hb2.mono hS1.size)
        refine hK.out _ _ (fun _ _ => hS2) ?_
        clear hK K
        try simp only [Act.put, List.setIfInBounds_toArray, List.set_cons_zero, List.set_cons_succ]
        refine take_p 10 101 (.bool true) rfl rfl (by kernel_rfl) (by kernel_rfl) (by kernel_rfl) (fun _ _ _ h => h) rfl (fun w => by go_simp) ?_
        try simp only [List.setIfInBounds_toArray, List.set_cons_zero, List.set_cons_succ]
        refine take_p 11 102 (.bool true) rfl rfl (by kernel_rfl) (by kernel_rfl) (by kernel_rfl) (fun _ _ _ h => h) rfl (fun w => by go_simp) ?_
        try simp only [List.setIfInBounds_toArray, List.set_cons_zero, List.set_cons_succ]
        refine ready_f 12 (o := { dst := some 103, op := Op.call { callee := Callee.value (Operand.func 7), args := #[], argTypes := #[] }, type := 4, pos := "law.go:121", after := #[{ on := 11, ground := Ground.chain }, { on := 11, ground := Ground.guard }], guard := some (11, true) }) (by kernel_rfl) rfl (fun K hK => ?_)
        go_simp
        refine (kA _).out.mono ?_
        rintro e w3 ⟨rfl, hb3⟩
        have hS3 : Below wr.heap.size wr w3 := hS2.trans (hb3.mono hS2.size)
        refine hK.out _ _ (fun _ _ => hS3) ?_
        clear hK K
        try simp only [Act.put, List.setIfInBounds_toArray, List.set_cons_zero, List.set_cons_succ]
        refine take_p 13 104 (.bool true) rfl rfl (by kernel_rfl) (by kernel_rfl) (by kernel_rfl) (fun _ _ _ h => h) rfl (fun w => by go_simp) ?_
        try simp only [List.setIfInBounds_toArray, List.set_cons_zero, List.set_cons_succ]
        refine take_p 14 10 (.bool true) rfl rfl (by kernel_rfl) (by kernel_rfl) (by kernel_rfl) (fun _ _ _ h => h) rfl (fun w => by go_simp) ?_
        try simp only [List.setIfInBounds_toArray, List.set_cons_zero, List.set_cons_succ]
        refine done_f (by kernel_rfl) ?_ _
        go_wp2
        go_ret
        exact ⟨rfl, (AA.out.to hS3).bel⟩

theorem tells_all (d0 d1 m mr N c cr cb : Nat) (a ar av : Option Addr) (S R : Nat → Nat → Nat) (ch : List Bool) (t : Bool) (w : World) (hS : T.Rws w m a S) (hR : T.Rws w mr ar R) (hv : T.Bl w N av ch) (hd0 : d0 < 18446744073709551616) (hd1 : d1 < 18446744073709551616) :
    Calls Try.prog 6 #[rw2 d0 d1, .slice a m c, .slice ar mr cr, .slice av N cb, .bool t] w fun e w' => e = .returned (.bool true) ∧ Below w.heap.size w w' := by
  by_cases h : 60 < m ∨ 60 < mr ∨ 60 < N
  · exact tells_else d0 d1 m mr N c cr cb a ar av t w h
  · exact tells_in d0 d1 m mr N c cr cb a ar av S R ch t w hS hR hv (by omega) (by omega) (by omega) hd0 hd1
end Go.Proofs.Ytdahnbojnleboaa.I
