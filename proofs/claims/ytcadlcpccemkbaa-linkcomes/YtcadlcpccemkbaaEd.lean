/- What happens between two ends: an end starts anew; nothing. -/
import Derived.Test.YtcadlcpccemkbaaEc
namespace Go.Proofs.Ytcadlcpccemkbaa
open Go.RowKit
set_option maxRecDepth 100000
attribute [local go_sem] not_any

def Es.mv5 (S : Es) (W : Nat) : Es := ((S.lnk W (Ls.new ((S.L W).own + 1))).lst (4 + W) []).lst (6 + W) []

set_option maxHeartbeats 2000000 in
theorem move5_0 {N B e n : Nat} {p : Nat → Nat} {vl : Nat → Value} {Fp : Nat → Nat → Prop} {S : Es} {w : World} (h : Em B e p vl Fp n S w) (hS : S.Ok N) (hN : N + 1000 < 4294967296) (hn : n < 1000000) (who : Int) (pick : Nat) (hpk : pick < 256) (body : ByteArray) (hw : who % 2 = 0) (hbd : body.size ≤ 100) :
    Calls Try.prog 6 #[.pointer (some ⟨e, 0, none⟩), .agg #[.int .i64 5, .int .i64 who, .int .u8 (pick : Int), .string body]] w fun x w' => x = .returned (.bool true) ∧ Ebx B e (n + 1) (S.mv5 0) w w' := by
  have H := hide1 h
  have HS := hide1 hS
  have HN := hide1 hN
  have Hn := hide1 hn
  have HBD := hide1 hbd
  have hwb : bits BinOp.and IntKind.i64 who 1 = 0 := by rw [i64_and1]; exact hw
  obtain ⟨L0, _⟩ := h.ls 2 (by omega) (by omega)
  obtain ⟨ta, tc, htv⟩ := L0.form
  obtain ⟨tn, htn⟩ : ∃ k, (S.ls 2).length = k := ⟨_, rfl⟩
  rw [htn] at htv
  have HTN := hide1 htn
  have htn60 : tn ≤ 60 := by have := (hS.way 2 (by omega) (by omega)).1; omega
  obtain ⟨P, hP⟩ : ∃ P : World → Prop, P = fun w' => Ebx B e (n + 1) (S.mv5 0) w w' := ⟨_, rfl⟩
  have HP : Hid (∀ w', Ebx B e (n + 1) (S.mv5 0) w w' → P w') := fun w' h => by rw [hP]; exact h
  suffices hs : Calls Try.prog 6 #[.pointer (some ⟨e, 0, none⟩), .agg #[.int .i64 5, .int .i64 who, .int .u8 (pick : Int), .string body]] w fun x w' => x = .returned (.bool true) ∧ P w' by rw [hP] at hs; exact hs
  clear hP h hS hN hn hw hbd htn L0
  have HTV := hide1 htv
  clear htv
  by_cases htp : tn = 0
  · subst htp
    go_enter Try.func6, Try.ntmps6
    go_upto_region 1 with (fail)
    generalize hX : World.alloc w _ = W0
    have B0 : Hid (Below w.heap.size w W0) := by rw [← hX]; exact below1 _
    have RM := hide1 (hX ▸ heap_alloc_new w _)
    obtain ⟨gm, hgm⟩ : ∃ g, w.heap.size = g := ⟨_, rfl⟩
    rw [hgm] at RM ⊢
    clear hX
    have E0 := hide1 (H.out.below B0.out (Nat.le_refl _))
    obtain ⟨m0, m1, m2, m3⟩ : W0.cell? ⟨gm, 0, none⟩ = some (.int .i64 5) ∧ W0.cell? ⟨gm, 1, none⟩ = some (.int .i64 who) ∧ W0.cell? ⟨gm, 2, none⟩ = some (.int .u8 (pick : Int)) ∧ W0.cell? ⟨gm, 3, none⟩ = some (.string body) := ⟨by rw [cell_of_row _ gm 0 _ _ _ RM.out]; rfl, by rw [cell_of_row _ gm 1 _ _ _ RM.out]; rfl, by rw [cell_of_row _ gm 2 _ _ _ RM.out]; rfl, by rw [cell_of_row _ gm 3 _ _ _ RM.out]; rfl⟩
    have cT := (box13 E0.out.row).1.2.2.1
    rw [HTV.out] at cT
    have HGM := hide1 hgm
    clear hgm
    have cL := (box13 E0.out.row).1.1
    obtain ⟨lv, lm, lu, hlk, hlf⟩ := E0.out.lk 0 (by omega)
    have kO := hide1 (lown_any hlk (HS.out.L 0 (by omega)).own0)
    obtain ⟨own1, how1⟩ : ∃ k, (S.L 0).own + 1 = k := ⟨_, rfl⟩
    have hown1 : Hid (0 < own1) := by unfold Hid; omega
    have hownw : IntKind.u32.wrap (((S.L 0).own : Int) + 1) = (own1 : Int) := by
      have h1 := HS.out.ow 0 (by omega)
      have h2 := HN.out
      rw [IntKind.wrap_u32]
      omega
    have hownm : (own1 : Int) % 4294967296 = (own1 : Int) := by have h1 := HS.out.ow 0 (by omega); have h2 := HN.out; omega
    have HO1 := hide1 how1
    have hown2 : ((S.L 0).own : Int) + 1 = (own1 : Int) := by omega
    generalize ((S.L 0).own : Int) = oi at kO hownw hown2
    clear hlk hlf how1
    go_wp2_with fail
    refine kO.out.mono ?_
    rintro x9 w1 ⟨rfl, hw1⟩
    obtain rfl := hw1.symm
    have kN := hide1 (lnew_any own1 hown1.out W0)
    go_wp2_with fail
    refine kN.out.mono ?_
    rintro x9 W3 ⟨rfl, M3', B3⟩
    have E3 := hide1 (E0.out.below B3 (Nat.le_refl _))
    have M3 : Hid (Lkm B W0.heap.size (.slice none 0 0) (.map none) (.slice none 0 0) n (Ls.new own1) W3) := Lkm.fresh B E0.out.hB rfl rfl rfl M3'.row
    have BB := hide1 ((B0.out.mono H.out.hB).trans (B3.mono E0.out.hB))
    have HNF : Hid (∀ g, Lf W0.heap.size (.slice none 0 0) (.map none) (.slice none 0 0) g → ∀ j, j < 9 → ¬ Fp j g) := fun g hg j hj e9 => by
      have h1 := (E0.out.fb hj e9).2
      rcases hg with hg | hg | hg | hg
      · omega
      · cases hg
      · cases hg
      · cases hg
    obtain ⟨gl, hgl⟩ : ∃ g, W0.heap.size = g := ⟨_, rfl⟩
    rw [hgl] at M3 HNF ⊢
    clear kO kN M3' B3 cL cT m0 m1 m2 m3 hgl hownw hownm
    go_upto_region 34 with (fail)
    refine region_f (F := []) (S := fun _ => True) (by kernel_rfl) trivial (fun hS => ?_)
    have E3u : Hid (Em B e p vl Fp n S (World.drew W3)) := E3.out.below (Below.refl _ _).drew (Nat.le_refl _)
    have M3u : Hid (Lkm B gl (.slice none 0 0) (.map none) (.slice none 0 0) n (Ls.new own1) (World.drew W3)) := M3.out.below (Below.refl _ _).drew (Nat.le_refl _)
    have BBu : Hid (Below B w (World.drew W3)) := BB.out.drew
    generalize World.drew W3 = WU at E3u M3u BBu ⊢
    clear E3 M3 BB hS
    refine take_p 0 226 (.pointer (some ⟨e, 0, none⟩)) rfl rfl (by kernel_rfl) (by kernel_rfl) (by kernel_rfl) (fun _ _ _ h => h) rfl (fun w => by go_simp) ?_
    try simp only [List.setIfInBounds_toArray, List.set_cons_zero, List.set_cons_succ]
    refine take_p 1 227 (.int .i64 0) rfl rfl (by kernel_rfl) (by kernel_rfl) (by kernel_rfl) (fun _ _ _ h => h) rfl (fun w => by go_simp) ?_
    try simp only [List.setIfInBounds_toArray, List.set_cons_zero, List.set_cons_succ]
    refine take_p 2 228 (.pointer (some ⟨e, 0, none⟩)) rfl rfl (by kernel_rfl) (by kernel_rfl) (by kernel_rfl) (fun _ _ _ h => h) rfl (fun w => by go_simp) ?_
    try simp only [List.setIfInBounds_toArray, List.set_cons_zero, List.set_cons_succ]
    refine take_p 3 229 (.int .i64 0) rfl rfl (by kernel_rfl) (by kernel_rfl) (by kernel_rfl) (fun _ _ _ h => h) rfl (fun w => by go_simp) ?_
    try simp only [List.setIfInBounds_toArray, List.set_cons_zero, List.set_cons_succ]
    refine take_p 4 230 (.pointer (some ⟨e, 0, none⟩)) rfl rfl (by kernel_rfl) (by kernel_rfl) (by kernel_rfl) (fun _ _ _ h => h) rfl (fun w => by go_simp) ?_
    try simp only [List.setIfInBounds_toArray, List.set_cons_zero, List.set_cons_succ]
    refine take_p 5 231 (.int .i64 0) rfl rfl (by kernel_rfl) (by kernel_rfl) (by kernel_rfl) (fun _ _ _ h => h) rfl (fun w => by go_simp) ?_
    try simp only [List.setIfInBounds_toArray, List.set_cons_zero, List.set_cons_succ]
    refine take_p 6 232 (.pointer (some ⟨gl, 0, none⟩)) rfl rfl (by kernel_rfl) (by kernel_rfl) (by kernel_rfl) (fun _ _ _ h => h) rfl (fun w => by go_simp) ?_
    try simp only [List.setIfInBounds_toArray, List.set_cons_zero, List.set_cons_succ]
    refine take_p 7 233 (.pointer (some ⟨e, 0, none⟩)) rfl rfl (by kernel_rfl) (by kernel_rfl) (by kernel_rfl) (fun _ _ _ h => h) rfl (fun w => by go_simp) ?_
    try simp only [List.setIfInBounds_toArray, List.set_cons_zero, List.set_cons_succ]
    refine take_p 8 234 (.pointer (some ⟨e, 0, none⟩)) rfl rfl (by kernel_rfl) (by kernel_rfl) (by kernel_rfl) (fun _ _ _ h => h) rfl (fun w => by go_simp) ?_
    try simp only [List.setIfInBounds_toArray, List.set_cons_zero, List.set_cons_succ]
    refine take_p 9 235 (.pointer (some ⟨e, 0, none⟩)) rfl rfl (by kernel_rfl) (by kernel_rfl) (by kernel_rfl) (fun _ _ _ h => h) rfl (fun w => by go_simp) ?_
    try simp only [List.setIfInBounds_toArray, List.set_cons_zero, List.set_cons_succ]
    refine take_p 11 236 (.pointer (some ⟨e, 0, none⟩)) rfl rfl (by kernel_rfl) (by kernel_rfl) (by kernel_rfl) (fun _ _ _ h => h) rfl (fun w => by go_simp) ?_
    try simp only [List.setIfInBounds_toArray, List.set_cons_zero, List.set_cons_succ]
    refine take_p 12 237 (.pointer (some ⟨e, 4, none⟩)) rfl rfl (by kernel_rfl) (by kernel_rfl) (by kernel_rfl) (fun _ _ _ h => h) rfl (fun w => by go_simp) ?_
    try simp only [List.setIfInBounds_toArray, List.set_cons_zero, List.set_cons_succ]
    refine take_p 15 239 (.pointer (some ⟨e, 0, none⟩)) rfl rfl (by kernel_rfl) (by kernel_rfl) (by kernel_rfl) (fun _ _ _ h => h) rfl (fun w => by go_simp) ?_
    try simp only [List.setIfInBounds_toArray, List.set_cons_zero, List.set_cons_succ]
    refine take_p 16 240 (.pointer (some ⟨e, 6, none⟩)) rfl rfl (by kernel_rfl) (by kernel_rfl) (by kernel_rfl) (fun _ _ _ h => h) rfl (fun w => by go_simp) ?_
    try simp only [List.setIfInBounds_toArray, List.set_cons_zero, List.set_cons_succ]
    have k0 := (box13 E3u.out.row).1.1
    have f0 := (box13 E3u.out.row).2.2 0
    obtain ⟨E4, B4⟩ := E3u.out.anew (i := 0) (by omega) M3u.out HNF.out (by rw [heap_setCell_same _ e 0 _ _ _ E3u.out.row]; rfl)
    have HE4 := hide1 E4
    have HB4 := hide1 (BBu.out.trans B4)
    clear E4 B4 BBu
    refine ready_f 10 (o := { dst := none, op := Op.store 23 (Operand.tmp 235) (Operand.tmp 232), type := 0, pos := "law.go:153", after := #[{ on := 9, ground := Ground.data }, { on := 6, ground := Ground.data }, { on := 0, ground := Ground.phase }, { on := 1, ground := Ground.phase }, { on := 2, ground := Ground.textOnly Departure.lateStores }, { on := 3, ground := Ground.textOnly Departure.lateStores }, { on := 4, ground := Ground.textOnly Departure.lateStores }, { on := 5, ground := Ground.textOnly Departure.lateStores }, { on := 6, ground := Ground.phase }], guard := none }) (by kernel_rfl) rfl (fun K hK => ?_)
    go_simp
    refine hK.out _ _ (fun _ _ => trivial) ?_
    clear hK K
    generalize WU.setCell ⟨e, 0, none⟩ (.pointer (some ⟨gl, 0, none⟩)) = W4 at HE4 HB4 ⊢
    clear k0 f0 E3u M3u
    refine take_p 13 238 (.pointer (some ⟨e, 4, none⟩)) rfl rfl (by kernel_rfl) (by kernel_rfl) (by kernel_rfl) (fun _ _ _ h => h) rfl (fun w => by go_simp) ?_
    try simp only [List.setIfInBounds_toArray, List.set_cons_zero, List.set_cons_succ]
    have k0 := (box13 HE4.out.row).2.1.1
    have f0 := (box13 HE4.out.row).2.2 4
    obtain ⟨E5, B5⟩ := HE4.out.list (i := 4) (by omega) (by omega) (Lst.nil _ _) (Kp.refl _ _) (fun g hg => by cases hg) (by rw [heap_setCell_same _ e 4 _ _ _ HE4.out.row]; rfl)
    have HE5 := hide1 E5
    have HB5 := hide1 (HB4.out.trans B5)
    clear E5 B5 HB4
    refine ready_f 14 (o := { dst := none, op := Op.store 31 (Operand.tmp 238) (Operand.const (Value.slice none 0 0)), type := 0, pos := "law.go:153", after := #[{ on := 13, ground := Ground.data }, { on := 10, ground := Ground.chain }, { on := 0, ground := Ground.phase }, { on := 1, ground := Ground.phase }, { on := 2, ground := Ground.phase }, { on := 3, ground := Ground.phase }, { on := 4, ground := Ground.textOnly Departure.lateStores }, { on := 5, ground := Ground.textOnly Departure.lateStores }, { on := 6, ground := Ground.phase }, { on := 7, ground := Ground.phase }, { on := 8, ground := Ground.phase }, { on := 9, ground := Ground.phase }, { on := 10, ground := Ground.phase }], guard := none }) (by kernel_rfl) rfl (fun K hK => ?_)
    go_simp
    refine hK.out _ _ (fun _ _ => trivial) ?_
    clear hK K
    generalize W4.setCell ⟨e, 4, none⟩ (.slice none 0 0) = W5 at HE5 HB5 ⊢
    clear k0 f0 HE4
    refine take_p 17 241 (.pointer (some ⟨e, 6, none⟩)) rfl rfl (by kernel_rfl) (by kernel_rfl) (by kernel_rfl) (fun _ _ _ h => h) rfl (fun w => by go_simp) ?_
    try simp only [List.setIfInBounds_toArray, List.set_cons_zero, List.set_cons_succ]
    have k0 := (box13 HE5.out.row).2.1.2.2.1
    have f0 := (box13 HE5.out.row).2.2 6
    obtain ⟨E6, B6⟩ := HE5.out.list (i := 6) (by omega) (by omega) (Lst.nil _ _) (Kp.refl _ _) (fun g hg => by cases hg) (by rw [heap_setCell_same _ e 6 _ _ _ HE5.out.row]; rfl)
    have HE6 := hide1 E6
    have HB6 := hide1 (HB5.out.trans B6)
    clear E6 B6 HB5
    refine ready_f 18 (o := { dst := none, op := Op.store 31 (Operand.tmp 241) (Operand.const (Value.slice none 0 0)), type := 0, pos := "law.go:153", after := #[{ on := 17, ground := Ground.data }, { on := 14, ground := Ground.chain }, { on := 0, ground := Ground.phase }, { on := 1, ground := Ground.phase }, { on := 2, ground := Ground.phase }, { on := 3, ground := Ground.phase }, { on := 4, ground := Ground.phase }, { on := 5, ground := Ground.phase }, { on := 6, ground := Ground.phase }, { on := 7, ground := Ground.phase }, { on := 8, ground := Ground.phase }, { on := 9, ground := Ground.phase }, { on := 10, ground := Ground.phase }, { on := 11, ground := Ground.phase }, { on := 12, ground := Ground.phase }, { on := 13, ground := Ground.phase }, { on := 14, ground := Ground.phase }], guard := none }) (by kernel_rfl) rfl (fun K hK => ?_)
    go_simp
    refine hK.out _ _ (fun _ _ => trivial) ?_
    clear hK K
    refine done_f (by kernel_rfl) ?_ _
    clear k0 f0
    have fin := hide1 (HP.out _ ⟨_, _, _, (by have h9 := HE6.out.mono (Nat.le_succ n); rw [Es.mv5, HO1.out]; exact h9), HB6.out⟩)
    clear HE5 HE6 HB6
    go_wp2
    go_ret
    exact ⟨rfl, fin.out⟩
  · have htp0 : (0 : Int) < (tn : Int) := by omega
    have htpb : ¬ ((tn : Int) = 0) := by omega
    go_enter Try.func6, Try.ntmps6
    go_upto_region 1 with (fail)
    generalize hX : World.alloc w _ = W0
    have B0 : Hid (Below w.heap.size w W0) := by rw [← hX]; exact below1 _
    have RM := hide1 (hX ▸ heap_alloc_new w _)
    obtain ⟨gm, hgm⟩ : ∃ g, w.heap.size = g := ⟨_, rfl⟩
    rw [hgm] at RM ⊢
    clear hX
    have E0 := hide1 (H.out.below B0.out (Nat.le_refl _))
    obtain ⟨m0, m1, m2, m3⟩ : W0.cell? ⟨gm, 0, none⟩ = some (.int .i64 5) ∧ W0.cell? ⟨gm, 1, none⟩ = some (.int .i64 who) ∧ W0.cell? ⟨gm, 2, none⟩ = some (.int .u8 (pick : Int)) ∧ W0.cell? ⟨gm, 3, none⟩ = some (.string body) := ⟨by rw [cell_of_row _ gm 0 _ _ _ RM.out]; rfl, by rw [cell_of_row _ gm 1 _ _ _ RM.out]; rfl, by rw [cell_of_row _ gm 2 _ _ _ RM.out]; rfl, by rw [cell_of_row _ gm 3 _ _ _ RM.out]; rfl⟩
    have cT := (box13 E0.out.row).1.2.2.1
    rw [HTV.out] at cT
    have HGM := hide1 hgm
    clear hgm
    have cL := (box13 E0.out.row).1.1
    obtain ⟨lv, lm, lu, hlk, hlf⟩ := E0.out.lk 0 (by omega)
    have kO := hide1 (lown_any hlk (HS.out.L 0 (by omega)).own0)
    obtain ⟨own1, how1⟩ : ∃ k, (S.L 0).own + 1 = k := ⟨_, rfl⟩
    have hown1 : Hid (0 < own1) := by unfold Hid; omega
    have hownw : IntKind.u32.wrap (((S.L 0).own : Int) + 1) = (own1 : Int) := by
      have h1 := HS.out.ow 0 (by omega)
      have h2 := HN.out
      rw [IntKind.wrap_u32]
      omega
    have hownm : (own1 : Int) % 4294967296 = (own1 : Int) := by have h1 := HS.out.ow 0 (by omega); have h2 := HN.out; omega
    have HO1 := hide1 how1
    have hown2 : ((S.L 0).own : Int) + 1 = (own1 : Int) := by omega
    generalize ((S.L 0).own : Int) = oi at kO hownw hown2
    clear hlk hlf how1
    go_wp2_with fail
    refine kO.out.mono ?_
    rintro x9 w1 ⟨rfl, hw1⟩
    obtain rfl := hw1.symm
    have kN := hide1 (lnew_any own1 hown1.out W0)
    go_wp2_with fail
    refine kN.out.mono ?_
    rintro x9 W3 ⟨rfl, M3', B3⟩
    have E3 := hide1 (E0.out.below B3 (Nat.le_refl _))
    have M3 : Hid (Lkm B W0.heap.size (.slice none 0 0) (.map none) (.slice none 0 0) n (Ls.new own1) W3) := Lkm.fresh B E0.out.hB rfl rfl rfl M3'.row
    have BB := hide1 ((B0.out.mono H.out.hB).trans (B3.mono E0.out.hB))
    have HNF : Hid (∀ g, Lf W0.heap.size (.slice none 0 0) (.map none) (.slice none 0 0) g → ∀ j, j < 9 → ¬ Fp j g) := fun g hg j hj e9 => by
      have h1 := (E0.out.fb hj e9).2
      rcases hg with hg | hg | hg | hg
      · omega
      · cases hg
      · cases hg
      · cases hg
    obtain ⟨gl, hgl⟩ : ∃ g, W0.heap.size = g := ⟨_, rfl⟩
    rw [hgl] at M3 HNF ⊢
    clear kO kN M3' B3 cL cT m0 m1 m2 m3 hgl hownw hownm
    go_upto_region 34 with (fail)
    refine region_f (F := []) (S := fun _ => True) (by kernel_rfl) trivial (fun hS => ?_)
    have E3u : Hid (Em B e p vl Fp n S (World.drew W3)) := E3.out.below (Below.refl _ _).drew (Nat.le_refl _)
    have M3u : Hid (Lkm B gl (.slice none 0 0) (.map none) (.slice none 0 0) n (Ls.new own1) (World.drew W3)) := M3.out.below (Below.refl _ _).drew (Nat.le_refl _)
    have BBu : Hid (Below B w (World.drew W3)) := BB.out.drew
    generalize World.drew W3 = WU at E3u M3u BBu ⊢
    clear E3 M3 BB hS
    refine take_p 0 226 (.pointer (some ⟨e, 0, none⟩)) rfl rfl (by kernel_rfl) (by kernel_rfl) (by kernel_rfl) (fun _ _ _ h => h) rfl (fun w => by go_simp) ?_
    try simp only [List.setIfInBounds_toArray, List.set_cons_zero, List.set_cons_succ]
    refine take_p 1 227 (.int .i64 0) rfl rfl (by kernel_rfl) (by kernel_rfl) (by kernel_rfl) (fun _ _ _ h => h) rfl (fun w => by go_simp) ?_
    try simp only [List.setIfInBounds_toArray, List.set_cons_zero, List.set_cons_succ]
    refine take_p 2 228 (.pointer (some ⟨e, 0, none⟩)) rfl rfl (by kernel_rfl) (by kernel_rfl) (by kernel_rfl) (fun _ _ _ h => h) rfl (fun w => by go_simp) ?_
    try simp only [List.setIfInBounds_toArray, List.set_cons_zero, List.set_cons_succ]
    refine take_p 3 229 (.int .i64 0) rfl rfl (by kernel_rfl) (by kernel_rfl) (by kernel_rfl) (fun _ _ _ h => h) rfl (fun w => by go_simp) ?_
    try simp only [List.setIfInBounds_toArray, List.set_cons_zero, List.set_cons_succ]
    refine take_p 4 230 (.pointer (some ⟨e, 0, none⟩)) rfl rfl (by kernel_rfl) (by kernel_rfl) (by kernel_rfl) (fun _ _ _ h => h) rfl (fun w => by go_simp) ?_
    try simp only [List.setIfInBounds_toArray, List.set_cons_zero, List.set_cons_succ]
    refine take_p 5 231 (.int .i64 0) rfl rfl (by kernel_rfl) (by kernel_rfl) (by kernel_rfl) (fun _ _ _ h => h) rfl (fun w => by go_simp) ?_
    try simp only [List.setIfInBounds_toArray, List.set_cons_zero, List.set_cons_succ]
    refine take_p 6 232 (.pointer (some ⟨gl, 0, none⟩)) rfl rfl (by kernel_rfl) (by kernel_rfl) (by kernel_rfl) (fun _ _ _ h => h) rfl (fun w => by go_simp) ?_
    try simp only [List.setIfInBounds_toArray, List.set_cons_zero, List.set_cons_succ]
    refine take_p 7 233 (.pointer (some ⟨e, 0, none⟩)) rfl rfl (by kernel_rfl) (by kernel_rfl) (by kernel_rfl) (fun _ _ _ h => h) rfl (fun w => by go_simp) ?_
    try simp only [List.setIfInBounds_toArray, List.set_cons_zero, List.set_cons_succ]
    refine take_p 8 234 (.pointer (some ⟨e, 0, none⟩)) rfl rfl (by kernel_rfl) (by kernel_rfl) (by kernel_rfl) (fun _ _ _ h => h) rfl (fun w => by go_simp) ?_
    try simp only [List.setIfInBounds_toArray, List.set_cons_zero, List.set_cons_succ]
    refine take_p 9 235 (.pointer (some ⟨e, 0, none⟩)) rfl rfl (by kernel_rfl) (by kernel_rfl) (by kernel_rfl) (fun _ _ _ h => h) rfl (fun w => by go_simp) ?_
    try simp only [List.setIfInBounds_toArray, List.set_cons_zero, List.set_cons_succ]
    refine take_p 11 236 (.pointer (some ⟨e, 0, none⟩)) rfl rfl (by kernel_rfl) (by kernel_rfl) (by kernel_rfl) (fun _ _ _ h => h) rfl (fun w => by go_simp) ?_
    try simp only [List.setIfInBounds_toArray, List.set_cons_zero, List.set_cons_succ]
    refine take_p 12 237 (.pointer (some ⟨e, 4, none⟩)) rfl rfl (by kernel_rfl) (by kernel_rfl) (by kernel_rfl) (fun _ _ _ h => h) rfl (fun w => by go_simp) ?_
    try simp only [List.setIfInBounds_toArray, List.set_cons_zero, List.set_cons_succ]
    refine take_p 15 239 (.pointer (some ⟨e, 0, none⟩)) rfl rfl (by kernel_rfl) (by kernel_rfl) (by kernel_rfl) (fun _ _ _ h => h) rfl (fun w => by go_simp) ?_
    try simp only [List.setIfInBounds_toArray, List.set_cons_zero, List.set_cons_succ]
    refine take_p 16 240 (.pointer (some ⟨e, 6, none⟩)) rfl rfl (by kernel_rfl) (by kernel_rfl) (by kernel_rfl) (fun _ _ _ h => h) rfl (fun w => by go_simp) ?_
    try simp only [List.setIfInBounds_toArray, List.set_cons_zero, List.set_cons_succ]
    have k0 := (box13 E3u.out.row).1.1
    have f0 := (box13 E3u.out.row).2.2 0
    obtain ⟨E4, B4⟩ := E3u.out.anew (i := 0) (by omega) M3u.out HNF.out (by rw [heap_setCell_same _ e 0 _ _ _ E3u.out.row]; rfl)
    have HE4 := hide1 E4
    have HB4 := hide1 (BBu.out.trans B4)
    clear E4 B4 BBu
    refine ready_f 10 (o := { dst := none, op := Op.store 23 (Operand.tmp 235) (Operand.tmp 232), type := 0, pos := "law.go:153", after := #[{ on := 9, ground := Ground.data }, { on := 6, ground := Ground.data }, { on := 0, ground := Ground.phase }, { on := 1, ground := Ground.phase }, { on := 2, ground := Ground.textOnly Departure.lateStores }, { on := 3, ground := Ground.textOnly Departure.lateStores }, { on := 4, ground := Ground.textOnly Departure.lateStores }, { on := 5, ground := Ground.textOnly Departure.lateStores }, { on := 6, ground := Ground.phase }], guard := none }) (by kernel_rfl) rfl (fun K hK => ?_)
    go_simp
    refine hK.out _ _ (fun _ _ => trivial) ?_
    clear hK K
    generalize WU.setCell ⟨e, 0, none⟩ (.pointer (some ⟨gl, 0, none⟩)) = W4 at HE4 HB4 ⊢
    clear k0 f0 E3u M3u
    refine take_p 13 238 (.pointer (some ⟨e, 4, none⟩)) rfl rfl (by kernel_rfl) (by kernel_rfl) (by kernel_rfl) (fun _ _ _ h => h) rfl (fun w => by go_simp) ?_
    try simp only [List.setIfInBounds_toArray, List.set_cons_zero, List.set_cons_succ]
    have k0 := (box13 HE4.out.row).2.1.1
    have f0 := (box13 HE4.out.row).2.2 4
    obtain ⟨E5, B5⟩ := HE4.out.list (i := 4) (by omega) (by omega) (Lst.nil _ _) (Kp.refl _ _) (fun g hg => by cases hg) (by rw [heap_setCell_same _ e 4 _ _ _ HE4.out.row]; rfl)
    have HE5 := hide1 E5
    have HB5 := hide1 (HB4.out.trans B5)
    clear E5 B5 HB4
    refine ready_f 14 (o := { dst := none, op := Op.store 31 (Operand.tmp 238) (Operand.const (Value.slice none 0 0)), type := 0, pos := "law.go:153", after := #[{ on := 13, ground := Ground.data }, { on := 10, ground := Ground.chain }, { on := 0, ground := Ground.phase }, { on := 1, ground := Ground.phase }, { on := 2, ground := Ground.phase }, { on := 3, ground := Ground.phase }, { on := 4, ground := Ground.textOnly Departure.lateStores }, { on := 5, ground := Ground.textOnly Departure.lateStores }, { on := 6, ground := Ground.phase }, { on := 7, ground := Ground.phase }, { on := 8, ground := Ground.phase }, { on := 9, ground := Ground.phase }, { on := 10, ground := Ground.phase }], guard := none }) (by kernel_rfl) rfl (fun K hK => ?_)
    go_simp
    refine hK.out _ _ (fun _ _ => trivial) ?_
    clear hK K
    generalize W4.setCell ⟨e, 4, none⟩ (.slice none 0 0) = W5 at HE5 HB5 ⊢
    clear k0 f0 HE4
    refine take_p 17 241 (.pointer (some ⟨e, 6, none⟩)) rfl rfl (by kernel_rfl) (by kernel_rfl) (by kernel_rfl) (fun _ _ _ h => h) rfl (fun w => by go_simp) ?_
    try simp only [List.setIfInBounds_toArray, List.set_cons_zero, List.set_cons_succ]
    have k0 := (box13 HE5.out.row).2.1.2.2.1
    have f0 := (box13 HE5.out.row).2.2 6
    obtain ⟨E6, B6⟩ := HE5.out.list (i := 6) (by omega) (by omega) (Lst.nil _ _) (Kp.refl _ _) (fun g hg => by cases hg) (by rw [heap_setCell_same _ e 6 _ _ _ HE5.out.row]; rfl)
    have HE6 := hide1 E6
    have HB6 := hide1 (HB5.out.trans B6)
    clear E6 B6 HB5
    refine ready_f 18 (o := { dst := none, op := Op.store 31 (Operand.tmp 241) (Operand.const (Value.slice none 0 0)), type := 0, pos := "law.go:153", after := #[{ on := 17, ground := Ground.data }, { on := 14, ground := Ground.chain }, { on := 0, ground := Ground.phase }, { on := 1, ground := Ground.phase }, { on := 2, ground := Ground.phase }, { on := 3, ground := Ground.phase }, { on := 4, ground := Ground.phase }, { on := 5, ground := Ground.phase }, { on := 6, ground := Ground.phase }, { on := 7, ground := Ground.phase }, { on := 8, ground := Ground.phase }, { on := 9, ground := Ground.phase }, { on := 10, ground := Ground.phase }, { on := 11, ground := Ground.phase }, { on := 12, ground := Ground.phase }, { on := 13, ground := Ground.phase }, { on := 14, ground := Ground.phase }], guard := none }) (by kernel_rfl) rfl (fun K hK => ?_)
    go_simp
    refine hK.out _ _ (fun _ _ => trivial) ?_
    clear hK K
    refine done_f (by kernel_rfl) ?_ _
    clear k0 f0
    have fin := hide1 (HP.out _ ⟨_, _, _, (by have h9 := HE6.out.mono (Nat.le_succ n); rw [Es.mv5, HO1.out]; exact h9), HB6.out⟩)
    clear HE5 HE6 HB6
    go_wp2
    go_ret
    exact ⟨rfl, fin.out⟩

set_option maxHeartbeats 2000000 in
theorem move5_1 {N B e n : Nat} {p : Nat → Nat} {vl : Nat → Value} {Fp : Nat → Nat → Prop} {S : Es} {w : World} (h : Em B e p vl Fp n S w) (hS : S.Ok N) (hN : N + 1000 < 4294967296) (hn : n < 1000000) (who : Int) (pick : Nat) (hpk : pick < 256) (body : ByteArray) (hw : who % 2 = 1) (hbd : body.size ≤ 100) :
    Calls Try.prog 6 #[.pointer (some ⟨e, 0, none⟩), .agg #[.int .i64 5, .int .i64 who, .int .u8 (pick : Int), .string body]] w fun x w' => x = .returned (.bool true) ∧ Ebx B e (n + 1) (S.mv5 1) w w' := by
  have H := hide1 h
  have HS := hide1 hS
  have HN := hide1 hN
  have Hn := hide1 hn
  have HBD := hide1 hbd
  have hwb : bits BinOp.and IntKind.i64 who 1 = 1 := by rw [i64_and1]; exact hw
  obtain ⟨L0, _⟩ := h.ls 3 (by omega) (by omega)
  obtain ⟨ta, tc, htv⟩ := L0.form
  obtain ⟨tn, htn⟩ : ∃ k, (S.ls 3).length = k := ⟨_, rfl⟩
  rw [htn] at htv
  have HTN := hide1 htn
  have htn60 : tn ≤ 60 := by have := (hS.way 3 (by omega) (by omega)).1; omega
  obtain ⟨P, hP⟩ : ∃ P : World → Prop, P = fun w' => Ebx B e (n + 1) (S.mv5 1) w w' := ⟨_, rfl⟩
  have HP : Hid (∀ w', Ebx B e (n + 1) (S.mv5 1) w w' → P w') := fun w' h => by rw [hP]; exact h
  suffices hs : Calls Try.prog 6 #[.pointer (some ⟨e, 0, none⟩), .agg #[.int .i64 5, .int .i64 who, .int .u8 (pick : Int), .string body]] w fun x w' => x = .returned (.bool true) ∧ P w' by rw [hP] at hs; exact hs
  clear hP h hS hN hn hw hbd htn L0
  have HTV := hide1 htv
  clear htv
  by_cases htp : tn = 0
  · subst htp
    go_enter Try.func6, Try.ntmps6
    go_upto_region 1 with (fail)
    generalize hX : World.alloc w _ = W0
    have B0 : Hid (Below w.heap.size w W0) := by rw [← hX]; exact below1 _
    have RM := hide1 (hX ▸ heap_alloc_new w _)
    obtain ⟨gm, hgm⟩ : ∃ g, w.heap.size = g := ⟨_, rfl⟩
    rw [hgm] at RM ⊢
    clear hX
    have E0 := hide1 (H.out.below B0.out (Nat.le_refl _))
    obtain ⟨m0, m1, m2, m3⟩ : W0.cell? ⟨gm, 0, none⟩ = some (.int .i64 5) ∧ W0.cell? ⟨gm, 1, none⟩ = some (.int .i64 who) ∧ W0.cell? ⟨gm, 2, none⟩ = some (.int .u8 (pick : Int)) ∧ W0.cell? ⟨gm, 3, none⟩ = some (.string body) := ⟨by rw [cell_of_row _ gm 0 _ _ _ RM.out]; rfl, by rw [cell_of_row _ gm 1 _ _ _ RM.out]; rfl, by rw [cell_of_row _ gm 2 _ _ _ RM.out]; rfl, by rw [cell_of_row _ gm 3 _ _ _ RM.out]; rfl⟩
    have cT := (box13 E0.out.row).1.2.2.2
    rw [HTV.out] at cT
    have HGM := hide1 hgm
    clear hgm
    have cL := (box13 E0.out.row).1.2.1
    obtain ⟨lv, lm, lu, hlk, hlf⟩ := E0.out.lk 1 (by omega)
    have kO := hide1 (lown_any hlk (HS.out.L 1 (by omega)).own0)
    obtain ⟨own1, how1⟩ : ∃ k, (S.L 1).own + 1 = k := ⟨_, rfl⟩
    have hown1 : Hid (0 < own1) := by unfold Hid; omega
    have hownw : IntKind.u32.wrap (((S.L 1).own : Int) + 1) = (own1 : Int) := by
      have h1 := HS.out.ow 1 (by omega)
      have h2 := HN.out
      rw [IntKind.wrap_u32]
      omega
    have hownm : (own1 : Int) % 4294967296 = (own1 : Int) := by have h1 := HS.out.ow 1 (by omega); have h2 := HN.out; omega
    have HO1 := hide1 how1
    have hown2 : ((S.L 1).own : Int) + 1 = (own1 : Int) := by omega
    generalize ((S.L 1).own : Int) = oi at kO hownw hown2
    clear hlk hlf how1
    go_wp2_with fail
    refine kO.out.mono ?_
    rintro x9 w1 ⟨rfl, hw1⟩
    obtain rfl := hw1.symm
    have kN := hide1 (lnew_any own1 hown1.out W0)
    go_wp2_with fail
    refine kN.out.mono ?_
    rintro x9 W3 ⟨rfl, M3', B3⟩
    have E3 := hide1 (E0.out.below B3 (Nat.le_refl _))
    have M3 : Hid (Lkm B W0.heap.size (.slice none 0 0) (.map none) (.slice none 0 0) n (Ls.new own1) W3) := Lkm.fresh B E0.out.hB rfl rfl rfl M3'.row
    have BB := hide1 ((B0.out.mono H.out.hB).trans (B3.mono E0.out.hB))
    have HNF : Hid (∀ g, Lf W0.heap.size (.slice none 0 0) (.map none) (.slice none 0 0) g → ∀ j, j < 9 → ¬ Fp j g) := fun g hg j hj e9 => by
      have h1 := (E0.out.fb hj e9).2
      rcases hg with hg | hg | hg | hg
      · omega
      · cases hg
      · cases hg
      · cases hg
    obtain ⟨gl, hgl⟩ : ∃ g, W0.heap.size = g := ⟨_, rfl⟩
    rw [hgl] at M3 HNF ⊢
    clear kO kN M3' B3 cL cT m0 m1 m2 m3 hgl hownw hownm
    go_upto_region 34 with (fail)
    refine region_f (F := []) (S := fun _ => True) (by kernel_rfl) trivial (fun hS => ?_)
    have E3u : Hid (Em B e p vl Fp n S (World.drew W3)) := E3.out.below (Below.refl _ _).drew (Nat.le_refl _)
    have M3u : Hid (Lkm B gl (.slice none 0 0) (.map none) (.slice none 0 0) n (Ls.new own1) (World.drew W3)) := M3.out.below (Below.refl _ _).drew (Nat.le_refl _)
    have BBu : Hid (Below B w (World.drew W3)) := BB.out.drew
    generalize World.drew W3 = WU at E3u M3u BBu ⊢
    clear E3 M3 BB hS
    refine take_p 0 226 (.pointer (some ⟨e, 0, none⟩)) rfl rfl (by kernel_rfl) (by kernel_rfl) (by kernel_rfl) (fun _ _ _ h => h) rfl (fun w => by go_simp) ?_
    try simp only [List.setIfInBounds_toArray, List.set_cons_zero, List.set_cons_succ]
    refine take_p 1 227 (.int .i64 1) rfl rfl (by kernel_rfl) (by kernel_rfl) (by kernel_rfl) (fun _ _ _ h => h) rfl (fun w => by go_simp) ?_
    try simp only [List.setIfInBounds_toArray, List.set_cons_zero, List.set_cons_succ]
    refine take_p 2 228 (.pointer (some ⟨e, 0, none⟩)) rfl rfl (by kernel_rfl) (by kernel_rfl) (by kernel_rfl) (fun _ _ _ h => h) rfl (fun w => by go_simp) ?_
    try simp only [List.setIfInBounds_toArray, List.set_cons_zero, List.set_cons_succ]
    refine take_p 3 229 (.int .i64 1) rfl rfl (by kernel_rfl) (by kernel_rfl) (by kernel_rfl) (fun _ _ _ h => h) rfl (fun w => by go_simp) ?_
    try simp only [List.setIfInBounds_toArray, List.set_cons_zero, List.set_cons_succ]
    refine take_p 4 230 (.pointer (some ⟨e, 0, none⟩)) rfl rfl (by kernel_rfl) (by kernel_rfl) (by kernel_rfl) (fun _ _ _ h => h) rfl (fun w => by go_simp) ?_
    try simp only [List.setIfInBounds_toArray, List.set_cons_zero, List.set_cons_succ]
    refine take_p 5 231 (.int .i64 1) rfl rfl (by kernel_rfl) (by kernel_rfl) (by kernel_rfl) (fun _ _ _ h => h) rfl (fun w => by go_simp) ?_
    try simp only [List.setIfInBounds_toArray, List.set_cons_zero, List.set_cons_succ]
    refine take_p 6 232 (.pointer (some ⟨gl, 0, none⟩)) rfl rfl (by kernel_rfl) (by kernel_rfl) (by kernel_rfl) (fun _ _ _ h => h) rfl (fun w => by go_simp) ?_
    try simp only [List.setIfInBounds_toArray, List.set_cons_zero, List.set_cons_succ]
    refine take_p 7 233 (.pointer (some ⟨e, 0, none⟩)) rfl rfl (by kernel_rfl) (by kernel_rfl) (by kernel_rfl) (fun _ _ _ h => h) rfl (fun w => by go_simp) ?_
    try simp only [List.setIfInBounds_toArray, List.set_cons_zero, List.set_cons_succ]
    refine take_p 8 234 (.pointer (some ⟨e, 0, none⟩)) rfl rfl (by kernel_rfl) (by kernel_rfl) (by kernel_rfl) (fun _ _ _ h => h) rfl (fun w => by go_simp) ?_
    try simp only [List.setIfInBounds_toArray, List.set_cons_zero, List.set_cons_succ]
    refine take_p 9 235 (.pointer (some ⟨e, 1, none⟩)) rfl rfl (by kernel_rfl) (by kernel_rfl) (by kernel_rfl) (fun _ _ _ h => h) rfl (fun w => by go_simp) ?_
    try simp only [List.setIfInBounds_toArray, List.set_cons_zero, List.set_cons_succ]
    refine take_p 11 236 (.pointer (some ⟨e, 0, none⟩)) rfl rfl (by kernel_rfl) (by kernel_rfl) (by kernel_rfl) (fun _ _ _ h => h) rfl (fun w => by go_simp) ?_
    try simp only [List.setIfInBounds_toArray, List.set_cons_zero, List.set_cons_succ]
    refine take_p 12 237 (.pointer (some ⟨e, 4, none⟩)) rfl rfl (by kernel_rfl) (by kernel_rfl) (by kernel_rfl) (fun _ _ _ h => h) rfl (fun w => by go_simp) ?_
    try simp only [List.setIfInBounds_toArray, List.set_cons_zero, List.set_cons_succ]
    refine take_p 15 239 (.pointer (some ⟨e, 0, none⟩)) rfl rfl (by kernel_rfl) (by kernel_rfl) (by kernel_rfl) (fun _ _ _ h => h) rfl (fun w => by go_simp) ?_
    try simp only [List.setIfInBounds_toArray, List.set_cons_zero, List.set_cons_succ]
    refine take_p 16 240 (.pointer (some ⟨e, 6, none⟩)) rfl rfl (by kernel_rfl) (by kernel_rfl) (by kernel_rfl) (fun _ _ _ h => h) rfl (fun w => by go_simp) ?_
    try simp only [List.setIfInBounds_toArray, List.set_cons_zero, List.set_cons_succ]
    have k0 := (box13 E3u.out.row).1.2.1
    have f0 := (box13 E3u.out.row).2.2 1
    obtain ⟨E4, B4⟩ := E3u.out.anew (i := 1) (by omega) M3u.out HNF.out (by rw [heap_setCell_same _ e 1 _ _ _ E3u.out.row]; rfl)
    have HE4 := hide1 E4
    have HB4 := hide1 (BBu.out.trans B4)
    clear E4 B4 BBu
    refine ready_f 10 (o := { dst := none, op := Op.store 23 (Operand.tmp 235) (Operand.tmp 232), type := 0, pos := "law.go:153", after := #[{ on := 9, ground := Ground.data }, { on := 6, ground := Ground.data }, { on := 0, ground := Ground.phase }, { on := 1, ground := Ground.phase }, { on := 2, ground := Ground.textOnly Departure.lateStores }, { on := 3, ground := Ground.textOnly Departure.lateStores }, { on := 4, ground := Ground.textOnly Departure.lateStores }, { on := 5, ground := Ground.textOnly Departure.lateStores }, { on := 6, ground := Ground.phase }], guard := none }) (by kernel_rfl) rfl (fun K hK => ?_)
    go_simp
    refine hK.out _ _ (fun _ _ => trivial) ?_
    clear hK K
    generalize WU.setCell ⟨e, 1, none⟩ (.pointer (some ⟨gl, 0, none⟩)) = W4 at HE4 HB4 ⊢
    clear k0 f0 E3u M3u
    refine take_p 13 238 (.pointer (some ⟨e, 5, none⟩)) rfl rfl (by kernel_rfl) (by kernel_rfl) (by kernel_rfl) (fun _ _ _ h => h) rfl (fun w => by go_simp) ?_
    try simp only [List.setIfInBounds_toArray, List.set_cons_zero, List.set_cons_succ]
    have k0 := (box13 HE4.out.row).2.1.2.1
    have f0 := (box13 HE4.out.row).2.2 5
    obtain ⟨E5, B5⟩ := HE4.out.list (i := 5) (by omega) (by omega) (Lst.nil _ _) (Kp.refl _ _) (fun g hg => by cases hg) (by rw [heap_setCell_same _ e 5 _ _ _ HE4.out.row]; rfl)
    have HE5 := hide1 E5
    have HB5 := hide1 (HB4.out.trans B5)
    clear E5 B5 HB4
    refine ready_f 14 (o := { dst := none, op := Op.store 31 (Operand.tmp 238) (Operand.const (Value.slice none 0 0)), type := 0, pos := "law.go:153", after := #[{ on := 13, ground := Ground.data }, { on := 10, ground := Ground.chain }, { on := 0, ground := Ground.phase }, { on := 1, ground := Ground.phase }, { on := 2, ground := Ground.phase }, { on := 3, ground := Ground.phase }, { on := 4, ground := Ground.textOnly Departure.lateStores }, { on := 5, ground := Ground.textOnly Departure.lateStores }, { on := 6, ground := Ground.phase }, { on := 7, ground := Ground.phase }, { on := 8, ground := Ground.phase }, { on := 9, ground := Ground.phase }, { on := 10, ground := Ground.phase }], guard := none }) (by kernel_rfl) rfl (fun K hK => ?_)
    go_simp
    refine hK.out _ _ (fun _ _ => trivial) ?_
    clear hK K
    generalize W4.setCell ⟨e, 5, none⟩ (.slice none 0 0) = W5 at HE5 HB5 ⊢
    clear k0 f0 HE4
    refine take_p 17 241 (.pointer (some ⟨e, 7, none⟩)) rfl rfl (by kernel_rfl) (by kernel_rfl) (by kernel_rfl) (fun _ _ _ h => h) rfl (fun w => by go_simp) ?_
    try simp only [List.setIfInBounds_toArray, List.set_cons_zero, List.set_cons_succ]
    have k0 := (box13 HE5.out.row).2.1.2.2.2
    have f0 := (box13 HE5.out.row).2.2 7
    obtain ⟨E6, B6⟩ := HE5.out.list (i := 7) (by omega) (by omega) (Lst.nil _ _) (Kp.refl _ _) (fun g hg => by cases hg) (by rw [heap_setCell_same _ e 7 _ _ _ HE5.out.row]; rfl)
    have HE6 := hide1 E6
    have HB6 := hide1 (HB5.out.trans B6)
    clear E6 B6 HB5
    refine ready_f 18 (o := { dst := none, op := Op.store 31 (Operand.tmp 241) (Operand.const (Value.slice none 0 0)), type := 0, pos := "law.go:153", after := #[{ on := 17, ground := Ground.data }, { on := 14, ground := Ground.chain }, { on := 0, ground := Ground.phase }, { on := 1, ground := Ground.phase }, { on := 2, ground := Ground.phase }, { on := 3, ground := Ground.phase }, { on := 4, ground := Ground.phase }, { on := 5, ground := Ground.phase }, { on := 6, ground := Ground.phase }, { on := 7, ground := Ground.phase }, { on := 8, ground := Ground.phase }, { on := 9, ground := Ground.phase }, { on := 10, ground := Ground.phase }, { on := 11, ground := Ground.phase }, { on := 12, ground := Ground.phase }, { on := 13, ground := Ground.phase }, { on := 14, ground := Ground.phase }], guard := none }) (by kernel_rfl) rfl (fun K hK => ?_)
    go_simp
    refine hK.out _ _ (fun _ _ => trivial) ?_
    clear hK K
    refine done_f (by kernel_rfl) ?_ _
    clear k0 f0
    have fin := hide1 (HP.out _ ⟨_, _, _, (by have h9 := HE6.out.mono (Nat.le_succ n); rw [Es.mv5, HO1.out]; exact h9), HB6.out⟩)
    clear HE5 HE6 HB6
    go_wp2
    go_ret
    exact ⟨rfl, fin.out⟩
  · have htp0 : (0 : Int) < (tn : Int) := by omega
    have htpb : ¬ ((tn : Int) = 0) := by omega
    go_enter Try.func6, Try.ntmps6
    go_upto_region 1 with (fail)
    generalize hX : World.alloc w _ = W0
    have B0 : Hid (Below w.heap.size w W0) := by rw [← hX]; exact below1 _
    have RM := hide1 (hX ▸ heap_alloc_new w _)
    obtain ⟨gm, hgm⟩ : ∃ g, w.heap.size = g := ⟨_, rfl⟩
    rw [hgm] at RM ⊢
    clear hX
    have E0 := hide1 (H.out.below B0.out (Nat.le_refl _))
    obtain ⟨m0, m1, m2, m3⟩ : W0.cell? ⟨gm, 0, none⟩ = some (.int .i64 5) ∧ W0.cell? ⟨gm, 1, none⟩ = some (.int .i64 who) ∧ W0.cell? ⟨gm, 2, none⟩ = some (.int .u8 (pick : Int)) ∧ W0.cell? ⟨gm, 3, none⟩ = some (.string body) := ⟨by rw [cell_of_row _ gm 0 _ _ _ RM.out]; rfl, by rw [cell_of_row _ gm 1 _ _ _ RM.out]; rfl, by rw [cell_of_row _ gm 2 _ _ _ RM.out]; rfl, by rw [cell_of_row _ gm 3 _ _ _ RM.out]; rfl⟩
    have cT := (box13 E0.out.row).1.2.2.2
    rw [HTV.out] at cT
    have HGM := hide1 hgm
    clear hgm
    have cL := (box13 E0.out.row).1.2.1
    obtain ⟨lv, lm, lu, hlk, hlf⟩ := E0.out.lk 1 (by omega)
    have kO := hide1 (lown_any hlk (HS.out.L 1 (by omega)).own0)
    obtain ⟨own1, how1⟩ : ∃ k, (S.L 1).own + 1 = k := ⟨_, rfl⟩
    have hown1 : Hid (0 < own1) := by unfold Hid; omega
    have hownw : IntKind.u32.wrap (((S.L 1).own : Int) + 1) = (own1 : Int) := by
      have h1 := HS.out.ow 1 (by omega)
      have h2 := HN.out
      rw [IntKind.wrap_u32]
      omega
    have hownm : (own1 : Int) % 4294967296 = (own1 : Int) := by have h1 := HS.out.ow 1 (by omega); have h2 := HN.out; omega
    have HO1 := hide1 how1
    have hown2 : ((S.L 1).own : Int) + 1 = (own1 : Int) := by omega
    generalize ((S.L 1).own : Int) = oi at kO hownw hown2
    clear hlk hlf how1
    go_wp2_with fail
    refine kO.out.mono ?_
    rintro x9 w1 ⟨rfl, hw1⟩
    obtain rfl := hw1.symm
    have kN := hide1 (lnew_any own1 hown1.out W0)
    go_wp2_with fail
    refine kN.out.mono ?_
    rintro x9 W3 ⟨rfl, M3', B3⟩
    have E3 := hide1 (E0.out.below B3 (Nat.le_refl _))
    have M3 : Hid (Lkm B W0.heap.size (.slice none 0 0) (.map none) (.slice none 0 0) n (Ls.new own1) W3) := Lkm.fresh B E0.out.hB rfl rfl rfl M3'.row
    have BB := hide1 ((B0.out.mono H.out.hB).trans (B3.mono E0.out.hB))
    have HNF : Hid (∀ g, Lf W0.heap.size (.slice none 0 0) (.map none) (.slice none 0 0) g → ∀ j, j < 9 → ¬ Fp j g) := fun g hg j hj e9 => by
      have h1 := (E0.out.fb hj e9).2
      rcases hg with hg | hg | hg | hg
      · omega
      · cases hg
      · cases hg
      · cases hg
    obtain ⟨gl, hgl⟩ : ∃ g, W0.heap.size = g := ⟨_, rfl⟩
    rw [hgl] at M3 HNF ⊢
    clear kO kN M3' B3 cL cT m0 m1 m2 m3 hgl hownw hownm
    go_upto_region 34 with (fail)
    refine region_f (F := []) (S := fun _ => True) (by kernel_rfl) trivial (fun hS => ?_)
    have E3u : Hid (Em B e p vl Fp n S (World.drew W3)) := E3.out.below (Below.refl _ _).drew (Nat.le_refl _)
    have M3u : Hid (Lkm B gl (.slice none 0 0) (.map none) (.slice none 0 0) n (Ls.new own1) (World.drew W3)) := M3.out.below (Below.refl _ _).drew (Nat.le_refl _)
    have BBu : Hid (Below B w (World.drew W3)) := BB.out.drew
    generalize World.drew W3 = WU at E3u M3u BBu ⊢
    clear E3 M3 BB hS
    refine take_p 0 226 (.pointer (some ⟨e, 0, none⟩)) rfl rfl (by kernel_rfl) (by kernel_rfl) (by kernel_rfl) (fun _ _ _ h => h) rfl (fun w => by go_simp) ?_
    try simp only [List.setIfInBounds_toArray, List.set_cons_zero, List.set_cons_succ]
    refine take_p 1 227 (.int .i64 1) rfl rfl (by kernel_rfl) (by kernel_rfl) (by kernel_rfl) (fun _ _ _ h => h) rfl (fun w => by go_simp) ?_
    try simp only [List.setIfInBounds_toArray, List.set_cons_zero, List.set_cons_succ]
    refine take_p 2 228 (.pointer (some ⟨e, 0, none⟩)) rfl rfl (by kernel_rfl) (by kernel_rfl) (by kernel_rfl) (fun _ _ _ h => h) rfl (fun w => by go_simp) ?_
    try simp only [List.setIfInBounds_toArray, List.set_cons_zero, List.set_cons_succ]
    refine take_p 3 229 (.int .i64 1) rfl rfl (by kernel_rfl) (by kernel_rfl) (by kernel_rfl) (fun _ _ _ h => h) rfl (fun w => by go_simp) ?_
    try simp only [List.setIfInBounds_toArray, List.set_cons_zero, List.set_cons_succ]
    refine take_p 4 230 (.pointer (some ⟨e, 0, none⟩)) rfl rfl (by kernel_rfl) (by kernel_rfl) (by kernel_rfl) (fun _ _ _ h => h) rfl (fun w => by go_simp) ?_
    try simp only [List.setIfInBounds_toArray, List.set_cons_zero, List.set_cons_succ]
    refine take_p 5 231 (.int .i64 1) rfl rfl (by kernel_rfl) (by kernel_rfl) (by kernel_rfl) (fun _ _ _ h => h) rfl (fun w => by go_simp) ?_
    try simp only [List.setIfInBounds_toArray, List.set_cons_zero, List.set_cons_succ]
    refine take_p 6 232 (.pointer (some ⟨gl, 0, none⟩)) rfl rfl (by kernel_rfl) (by kernel_rfl) (by kernel_rfl) (fun _ _ _ h => h) rfl (fun w => by go_simp) ?_
    try simp only [List.setIfInBounds_toArray, List.set_cons_zero, List.set_cons_succ]
    refine take_p 7 233 (.pointer (some ⟨e, 0, none⟩)) rfl rfl (by kernel_rfl) (by kernel_rfl) (by kernel_rfl) (fun _ _ _ h => h) rfl (fun w => by go_simp) ?_
    try simp only [List.setIfInBounds_toArray, List.set_cons_zero, List.set_cons_succ]
    refine take_p 8 234 (.pointer (some ⟨e, 0, none⟩)) rfl rfl (by kernel_rfl) (by kernel_rfl) (by kernel_rfl) (fun _ _ _ h => h) rfl (fun w => by go_simp) ?_
    try simp only [List.setIfInBounds_toArray, List.set_cons_zero, List.set_cons_succ]
    refine take_p 9 235 (.pointer (some ⟨e, 1, none⟩)) rfl rfl (by kernel_rfl) (by kernel_rfl) (by kernel_rfl) (fun _ _ _ h => h) rfl (fun w => by go_simp) ?_
    try simp only [List.setIfInBounds_toArray, List.set_cons_zero, List.set_cons_succ]
    refine take_p 11 236 (.pointer (some ⟨e, 0, none⟩)) rfl rfl (by kernel_rfl) (by kernel_rfl) (by kernel_rfl) (fun _ _ _ h => h) rfl (fun w => by go_simp) ?_
    try simp only [List.setIfInBounds_toArray, List.set_cons_zero, List.set_cons_succ]
    refine take_p 12 237 (.pointer (some ⟨e, 4, none⟩)) rfl rfl (by kernel_rfl) (by kernel_rfl) (by kernel_rfl) (fun _ _ _ h => h) rfl (fun w => by go_simp) ?_
    try simp only [List.setIfInBounds_toArray, List.set_cons_zero, List.set_cons_succ]
    refine take_p 15 239 (.pointer (some ⟨e, 0, none⟩)) rfl rfl (by kernel_rfl) (by kernel_rfl) (by kernel_rfl) (fun _ _ _ h => h) rfl (fun w => by go_simp) ?_
    try simp only [List.setIfInBounds_toArray, List.set_cons_zero, List.set_cons_succ]
    refine take_p 16 240 (.pointer (some ⟨e, 6, none⟩)) rfl rfl (by kernel_rfl) (by kernel_rfl) (by kernel_rfl) (fun _ _ _ h => h) rfl (fun w => by go_simp) ?_
    try simp only [List.setIfInBounds_toArray, List.set_cons_zero, List.set_cons_succ]
    have k0 := (box13 E3u.out.row).1.2.1
    have f0 := (box13 E3u.out.row).2.2 1
    obtain ⟨E4, B4⟩ := E3u.out.anew (i := 1) (by omega) M3u.out HNF.out (by rw [heap_setCell_same _ e 1 _ _ _ E3u.out.row]; rfl)
    have HE4 := hide1 E4
    have HB4 := hide1 (BBu.out.trans B4)
    clear E4 B4 BBu
    refine ready_f 10 (o := { dst := none, op := Op.store 23 (Operand.tmp 235) (Operand.tmp 232), type := 0, pos := "law.go:153", after := #[{ on := 9, ground := Ground.data }, { on := 6, ground := Ground.data }, { on := 0, ground := Ground.phase }, { on := 1, ground := Ground.phase }, { on := 2, ground := Ground.textOnly Departure.lateStores }, { on := 3, ground := Ground.textOnly Departure.lateStores }, { on := 4, ground := Ground.textOnly Departure.lateStores }, { on := 5, ground := Ground.textOnly Departure.lateStores }, { on := 6, ground := Ground.phase }], guard := none }) (by kernel_rfl) rfl (fun K hK => ?_)
    go_simp
    refine hK.out _ _ (fun _ _ => trivial) ?_
    clear hK K
    generalize WU.setCell ⟨e, 1, none⟩ (.pointer (some ⟨gl, 0, none⟩)) = W4 at HE4 HB4 ⊢
    clear k0 f0 E3u M3u
    refine take_p 13 238 (.pointer (some ⟨e, 5, none⟩)) rfl rfl (by kernel_rfl) (by kernel_rfl) (by kernel_rfl) (fun _ _ _ h => h) rfl (fun w => by go_simp) ?_
    try simp only [List.setIfInBounds_toArray, List.set_cons_zero, List.set_cons_succ]
    have k0 := (box13 HE4.out.row).2.1.2.1
    have f0 := (box13 HE4.out.row).2.2 5
    obtain ⟨E5, B5⟩ := HE4.out.list (i := 5) (by omega) (by omega) (Lst.nil _ _) (Kp.refl _ _) (fun g hg => by cases hg) (by rw [heap_setCell_same _ e 5 _ _ _ HE4.out.row]; rfl)
    have HE5 := hide1 E5
    have HB5 := hide1 (HB4.out.trans B5)
    clear E5 B5 HB4
    refine ready_f 14 (o := { dst := none, op := Op.store 31 (Operand.tmp 238) (Operand.const (Value.slice none 0 0)), type := 0, pos := "law.go:153", after := #[{ on := 13, ground := Ground.data }, { on := 10, ground := Ground.chain }, { on := 0, ground := Ground.phase }, { on := 1, ground := Ground.phase }, { on := 2, ground := Ground.phase }, { on := 3, ground := Ground.phase }, { on := 4, ground := Ground.textOnly Departure.lateStores }, { on := 5, ground := Ground.textOnly Departure.lateStores }, { on := 6, ground := Ground.phase }, { on := 7, ground := Ground.phase }, { on := 8, ground := Ground.phase }, { on := 9, ground := Ground.phase }, { on := 10, ground := Ground.phase }], guard := none }) (by kernel_rfl) rfl (fun K hK => ?_)
    go_simp
    refine hK.out _ _ (fun _ _ => trivial) ?_
    clear hK K
    generalize W4.setCell ⟨e, 5, none⟩ (.slice none 0 0) = W5 at HE5 HB5 ⊢
    clear k0 f0 HE4
    refine take_p 17 241 (.pointer (some ⟨e, 7, none⟩)) rfl rfl (by kernel_rfl) (by kernel_rfl) (by kernel_rfl) (fun _ _ _ h => h) rfl (fun w => by go_simp) ?_
    try simp only [List.setIfInBounds_toArray, List.set_cons_zero, List.set_cons_succ]
    have k0 := (box13 HE5.out.row).2.1.2.2.2
    have f0 := (box13 HE5.out.row).2.2 7
    obtain ⟨E6, B6⟩ := HE5.out.list (i := 7) (by omega) (by omega) (Lst.nil _ _) (Kp.refl _ _) (fun g hg => by cases hg) (by rw [heap_setCell_same _ e 7 _ _ _ HE5.out.row]; rfl)
    have HE6 := hide1 E6
    have HB6 := hide1 (HB5.out.trans B6)
    clear E6 B6 HB5
    refine ready_f 18 (o := { dst := none, op := Op.store 31 (Operand.tmp 241) (Operand.const (Value.slice none 0 0)), type := 0, pos := "law.go:153", after := #[{ on := 17, ground := Ground.data }, { on := 14, ground := Ground.chain }, { on := 0, ground := Ground.phase }, { on := 1, ground := Ground.phase }, { on := 2, ground := Ground.phase }, { on := 3, ground := Ground.phase }, { on := 4, ground := Ground.phase }, { on := 5, ground := Ground.phase }, { on := 6, ground := Ground.phase }, { on := 7, ground := Ground.phase }, { on := 8, ground := Ground.phase }, { on := 9, ground := Ground.phase }, { on := 10, ground := Ground.phase }, { on := 11, ground := Ground.phase }, { on := 12, ground := Ground.phase }, { on := 13, ground := Ground.phase }, { on := 14, ground := Ground.phase }], guard := none }) (by kernel_rfl) rfl (fun K hK => ?_)
    go_simp
    refine hK.out _ _ (fun _ _ => trivial) ?_
    clear hK K
    refine done_f (by kernel_rfl) ?_ _
    clear k0 f0
    have fin := hide1 (HP.out _ ⟨_, _, _, (by have h9 := HE6.out.mono (Nat.le_succ n); rw [Es.mv5, HO1.out]; exact h9), HB6.out⟩)
    clear HE5 HE6 HB6
    go_wp2
    go_ret
    exact ⟨rfl, fin.out⟩

set_option maxHeartbeats 2000000 in
theorem moveN_0 {N B e n : Nat} {p : Nat → Nat} {vl : Nat → Value} {Fp : Nat → Nat → Prop} {S : Es} {w : World} (h : Em B e p vl Fp n S w) (hS : S.Ok N) (hN : N + 1000 < 4294967296) (hn : n < 1000000) (kind who : Int) (hk : kind < 0 ∨ 5 < kind) (pick : Nat) (hpk : pick < 256) (body : ByteArray) (hw : who % 2 = 0) (hbd : body.size ≤ 100) :
    Calls Try.prog 6 #[.pointer (some ⟨e, 0, none⟩), .agg #[.int .i64 kind, .int .i64 who, .int .u8 (pick : Int), .string body]] w fun x w' => x = .returned (.bool true) ∧ Ebx B e (n + 1) (S) w w' := by
  have hk0 : (kind == 0) = false := by simp; omega
  have hk1 : (kind == 1) = false := by simp; omega
  have hk2 : (kind == 2) = false := by simp; omega
  have hk3 : (kind == 3) = false := by simp; omega
  have hk4 : (kind == 4) = false := by simp; omega
  have hk5 : (kind == 5) = false := by simp; omega
  clear hk
  have H := hide1 h
  have HS := hide1 hS
  have HN := hide1 hN
  have Hn := hide1 hn
  have HBD := hide1 hbd
  have hwb : bits BinOp.and IntKind.i64 who 1 = 0 := by rw [i64_and1]; exact hw
  obtain ⟨L0, _⟩ := h.ls 2 (by omega) (by omega)
  obtain ⟨ta, tc, htv⟩ := L0.form
  obtain ⟨tn, htn⟩ : ∃ k, (S.ls 2).length = k := ⟨_, rfl⟩
  rw [htn] at htv
  have HTN := hide1 htn
  have htn60 : tn ≤ 60 := by have := (hS.way 2 (by omega) (by omega)).1; omega
  obtain ⟨P, hP⟩ : ∃ P : World → Prop, P = fun w' => Ebx B e (n + 1) (S) w w' := ⟨_, rfl⟩
  have HP : Hid (∀ w', Ebx B e (n + 1) (S) w w' → P w') := fun w' h => by rw [hP]; exact h
  suffices hs : Calls Try.prog 6 #[.pointer (some ⟨e, 0, none⟩), .agg #[.int .i64 kind, .int .i64 who, .int .u8 (pick : Int), .string body]] w fun x w' => x = .returned (.bool true) ∧ P w' by rw [hP] at hs; exact hs
  clear hP h hS hN hn hw hbd htn L0
  have HTV := hide1 htv
  clear htv
  by_cases htp : tn = 0
  · subst htp
    go_enter Try.func6, Try.ntmps6
    go_upto_region 1 with (fail)
    generalize hX : World.alloc w _ = W0
    have B0 : Hid (Below w.heap.size w W0) := by rw [← hX]; exact below1 _
    have RM := hide1 (hX ▸ heap_alloc_new w _)
    obtain ⟨gm, hgm⟩ : ∃ g, w.heap.size = g := ⟨_, rfl⟩
    rw [hgm] at RM ⊢
    clear hX
    have E0 := hide1 (H.out.below B0.out (Nat.le_refl _))
    obtain ⟨m0, m1, m2, m3⟩ : W0.cell? ⟨gm, 0, none⟩ = some (.int .i64 kind) ∧ W0.cell? ⟨gm, 1, none⟩ = some (.int .i64 who) ∧ W0.cell? ⟨gm, 2, none⟩ = some (.int .u8 (pick : Int)) ∧ W0.cell? ⟨gm, 3, none⟩ = some (.string body) := ⟨by rw [cell_of_row _ gm 0 _ _ _ RM.out]; rfl, by rw [cell_of_row _ gm 1 _ _ _ RM.out]; rfl, by rw [cell_of_row _ gm 2 _ _ _ RM.out]; rfl, by rw [cell_of_row _ gm 3 _ _ _ RM.out]; rfl⟩
    have cT := (box13 E0.out.row).1.2.2.1
    rw [HTV.out] at cT
    have HGM := hide1 hgm
    clear hgm
    have fin := hide1 (HP.out _ ⟨_, _, _, E0.out.mono (Nat.le_succ n), B0.out.mono H.out.hB⟩)
    clear E0
    go_wp2
    go_ret
    exact ⟨rfl, fin.out⟩
  · have htp0 : (0 : Int) < (tn : Int) := by omega
    have htpb : ¬ ((tn : Int) = 0) := by omega
    go_enter Try.func6, Try.ntmps6
    go_upto_region 1 with (fail)
    generalize hX : World.alloc w _ = W0
    have B0 : Hid (Below w.heap.size w W0) := by rw [← hX]; exact below1 _
    have RM := hide1 (hX ▸ heap_alloc_new w _)
    obtain ⟨gm, hgm⟩ : ∃ g, w.heap.size = g := ⟨_, rfl⟩
    rw [hgm] at RM ⊢
    clear hX
    have E0 := hide1 (H.out.below B0.out (Nat.le_refl _))
    obtain ⟨m0, m1, m2, m3⟩ : W0.cell? ⟨gm, 0, none⟩ = some (.int .i64 kind) ∧ W0.cell? ⟨gm, 1, none⟩ = some (.int .i64 who) ∧ W0.cell? ⟨gm, 2, none⟩ = some (.int .u8 (pick : Int)) ∧ W0.cell? ⟨gm, 3, none⟩ = some (.string body) := ⟨by rw [cell_of_row _ gm 0 _ _ _ RM.out]; rfl, by rw [cell_of_row _ gm 1 _ _ _ RM.out]; rfl, by rw [cell_of_row _ gm 2 _ _ _ RM.out]; rfl, by rw [cell_of_row _ gm 3 _ _ _ RM.out]; rfl⟩
    have cT := (box13 E0.out.row).1.2.2.1
    rw [HTV.out] at cT
    have HGM := hide1 hgm
    clear hgm
    have fin := hide1 (HP.out _ ⟨_, _, _, E0.out.mono (Nat.le_succ n), B0.out.mono H.out.hB⟩)
    clear E0
    go_wp2
    go_ret
    exact ⟨rfl, fin.out⟩

set_option maxHeartbeats 2000000 in
theorem moveN_1 {N B e n : Nat} {p : Nat → Nat} {vl : Nat → Value} {Fp : Nat → Nat → Prop} {S : Es} {w : World} (h : Em B e p vl Fp n S w) (hS : S.Ok N) (hN : N + 1000 < 4294967296) (hn : n < 1000000) (kind who : Int) (hk : kind < 0 ∨ 5 < kind) (pick : Nat) (hpk : pick < 256) (body : ByteArray) (hw : who % 2 = 1) (hbd : body.size ≤ 100) :
    Calls Try.prog 6 #[.pointer (some ⟨e, 0, none⟩), .agg #[.int .i64 kind, .int .i64 who, .int .u8 (pick : Int), .string body]] w fun x w' => x = .returned (.bool true) ∧ Ebx B e (n + 1) (S) w w' := by
  have hk0 : (kind == 0) = false := by simp; omega
  have hk1 : (kind == 1) = false := by simp; omega
  have hk2 : (kind == 2) = false := by simp; omega
  have hk3 : (kind == 3) = false := by simp; omega
  have hk4 : (kind == 4) = false := by simp; omega
  have hk5 : (kind == 5) = false := by simp; omega
  clear hk
  have H := hide1 h
  have HS := hide1 hS
  have HN := hide1 hN
  have Hn := hide1 hn
  have HBD := hide1 hbd
  have hwb : bits BinOp.and IntKind.i64 who 1 = 1 := by rw [i64_and1]; exact hw
  obtain ⟨L0, _⟩ := h.ls 3 (by omega) (by omega)
  obtain ⟨ta, tc, htv⟩ := L0.form
  obtain ⟨tn, htn⟩ : ∃ k, (S.ls 3).length = k := ⟨_, rfl⟩
  rw [htn] at htv
  have HTN := hide1 htn
  have htn60 : tn ≤ 60 := by have := (hS.way 3 (by omega) (by omega)).1; omega
  obtain ⟨P, hP⟩ : ∃ P : World → Prop, P = fun w' => Ebx B e (n + 1) (S) w w' := ⟨_, rfl⟩
  have HP : Hid (∀ w', Ebx B e (n + 1) (S) w w' → P w') := fun w' h => by rw [hP]; exact h
  suffices hs : Calls Try.prog 6 #[.pointer (some ⟨e, 0, none⟩), .agg #[.int .i64 kind, .int .i64 who, .int .u8 (pick : Int), .string body]] w fun x w' => x = .returned (.bool true) ∧ P w' by rw [hP] at hs; exact hs
  clear hP h hS hN hn hw hbd htn L0
  have HTV := hide1 htv
  clear htv
  by_cases htp : tn = 0
  · subst htp
    go_enter Try.func6, Try.ntmps6
    go_upto_region 1 with (fail)
    generalize hX : World.alloc w _ = W0
    have B0 : Hid (Below w.heap.size w W0) := by rw [← hX]; exact below1 _
    have RM := hide1 (hX ▸ heap_alloc_new w _)
    obtain ⟨gm, hgm⟩ : ∃ g, w.heap.size = g := ⟨_, rfl⟩
    rw [hgm] at RM ⊢
    clear hX
    have E0 := hide1 (H.out.below B0.out (Nat.le_refl _))
    obtain ⟨m0, m1, m2, m3⟩ : W0.cell? ⟨gm, 0, none⟩ = some (.int .i64 kind) ∧ W0.cell? ⟨gm, 1, none⟩ = some (.int .i64 who) ∧ W0.cell? ⟨gm, 2, none⟩ = some (.int .u8 (pick : Int)) ∧ W0.cell? ⟨gm, 3, none⟩ = some (.string body) := ⟨by rw [cell_of_row _ gm 0 _ _ _ RM.out]; rfl, by rw [cell_of_row _ gm 1 _ _ _ RM.out]; rfl, by rw [cell_of_row _ gm 2 _ _ _ RM.out]; rfl, by rw [cell_of_row _ gm 3 _ _ _ RM.out]; rfl⟩
    have cT := (box13 E0.out.row).1.2.2.2
    rw [HTV.out] at cT
    have HGM := hide1 hgm
    clear hgm
    have fin := hide1 (HP.out _ ⟨_, _, _, E0.out.mono (Nat.le_succ n), B0.out.mono H.out.hB⟩)
    clear E0
    go_wp2
    go_ret
    exact ⟨rfl, fin.out⟩
  · have htp0 : (0 : Int) < (tn : Int) := by omega
    have htpb : ¬ ((tn : Int) = 0) := by omega
    go_enter Try.func6, Try.ntmps6
    go_upto_region 1 with (fail)
    generalize hX : World.alloc w _ = W0
    have B0 : Hid (Below w.heap.size w W0) := by rw [← hX]; exact below1 _
    have RM := hide1 (hX ▸ heap_alloc_new w _)
    obtain ⟨gm, hgm⟩ : ∃ g, w.heap.size = g := ⟨_, rfl⟩
    rw [hgm] at RM ⊢
    clear hX
    have E0 := hide1 (H.out.below B0.out (Nat.le_refl _))
    obtain ⟨m0, m1, m2, m3⟩ : W0.cell? ⟨gm, 0, none⟩ = some (.int .i64 kind) ∧ W0.cell? ⟨gm, 1, none⟩ = some (.int .i64 who) ∧ W0.cell? ⟨gm, 2, none⟩ = some (.int .u8 (pick : Int)) ∧ W0.cell? ⟨gm, 3, none⟩ = some (.string body) := ⟨by rw [cell_of_row _ gm 0 _ _ _ RM.out]; rfl, by rw [cell_of_row _ gm 1 _ _ _ RM.out]; rfl, by rw [cell_of_row _ gm 2 _ _ _ RM.out]; rfl, by rw [cell_of_row _ gm 3 _ _ _ RM.out]; rfl⟩
    have cT := (box13 E0.out.row).1.2.2.2
    rw [HTV.out] at cT
    have HGM := hide1 hgm
    clear hgm
    have fin := hide1 (HP.out _ ⟨_, _, _, E0.out.mono (Nat.le_succ n), B0.out.mono H.out.hB⟩)
    clear E0
    go_wp2
    go_ret
    exact ⟨rfl, fin.out⟩

end Go.Proofs.Ytcadlcpccemkbaa
