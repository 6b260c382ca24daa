/- The walk of BitsGets where there is a bit. -/
import Derived.Test.YtnpanmdajcbbfaaV
namespace Go.Proofs.Ytnpanmdajcbbfaa
open Go.RowKit
set_option maxRecDepth 100000
attribute [local go_sem] not_any mf_any field_words

theorem bl_news {w : World} {n g o : Nat} {l : List Bool} (h : Bl w n (some ⟨g, o, none⟩) l) : ∀ j u, (bools l)[j]? = some u → w.cell? ((⟨g, o, none⟩ : Addr).add j) = some u := by
  intro j u hu
  simp only [bools, List.getElem?_map, Option.map_eq_some_iff] at hu
  obtain ⟨x, hx, rfl⟩ := hu
  obtain ⟨g', o', e, hc⟩ := h.at' j x hx
  cases e
  rw [addr_add]
  exact hc

set_option maxHeartbeats 8000000 in
theorem gets_any (w : World) (n c : Nat) (a : Option Addr) (l : List Bool) (k : Nat) (t : Bool) (hl : Bl w n a l) (hn : n ≤ 1000) (hk : k < n) :
    Calls Try.prog 4 #[.slice a n c, .int .i64 k, .bool t] w fun e w' => e = .returned (.bool true) ∧ Below w.heap.size w w' := by
  obtain ⟨i0, hi, hz0, hz1, hz2⟩ := info_parts info4
  have hA := fun w => hide1 (awake_any w)
  have hOf := fun w h => hide1 (of_any w n c a l h (by omega))
  have hWi := fun b w (av : Option Addr) h => hide1 (with_any b w n av l k t h hk (by omega))
  have hCo := fun b w (av : Option Addr) h => hide1 (count_bl b w n av l h (by omega))
  have hOd := fun b w (av : Option Addr) h => hide1 (odd_bl b w n av l h (by omega))
  have hRc := fun w h => hide1 (rcount_bl w n c a l h (by omega))
  have hGe := fun b w (av : Option Addr) h => hide1 (get_bl b w n av l k h (by omega))
  have hSh := fun b w (a av : Option Addr) c l h1 h2 => hide1 (shows_any b w n c a av l h1 h2 (by omega))
  have HL := hide1 hl
  obtain ⟨x0, hx0⟩ : ∃ x, l[k]? = some x := ⟨_, List.getElem?_eq_getElem (by rw [hl.len]; exact hk)⟩
  rw [getI_nat, getD_of hx0] at hGe
  obtain ⟨gl, ol, rfl, hcl⟩ := hl.at' k x0 hx0
  have hgl := lt_cell hcl
  have HCL := hide1 hcl
  have HX0 : Hid ((bools l)[k]? = some (.bool x0)) := by simp [Hid, bools, hx0]
  have hcn : l.count true ≤ 1000 := by
    have h1 := List.count_le_length (a := true) (l := l)
    have h3 := hl.len
    omega
  have ho := int_odd (l.count true)
  generalize l.count true = x at *
  generalize decide (x % 2 = 1) = ob at *
  have mixed := mixed
  have h1 : ¬ (1000 : Int) < (n : Int) := by omega
  have h2 : ((x : Int) != (x : Int)) = false := by simp
  have h4 : ¬ ((k : Int) < 0) := by omega
  have h5 : ¬ ((n : Int) ≤ (k : Int)) := by omega
  clear hl hx0 hcl
  go_enter Try.func4, Try.ntmps4
  go_wp2_with fail
  refine (hOf _ HL.out).out.mono ?_
  rintro e w1 ⟨ax, rfl, hv, hb⟩
  have S1 := hide1 (Als.put (ts := []) ⟨by simp, hb⟩ hv)
  clear hv hb
  go_wp2_with fail
  refine (hWi _ _ _ (S1.out.vc (t := w1.heap.size) (by simp))).out.mono ?_
  rintro e w2 ⟨ay, rfl, hv, hb⟩
  have S1' := hide1 (S1.out.next hb)
  have S2 := hide1 (S1'.out.put hv)
  obtain ⟨c0, c1, c4⟩ := S1'.out.box (t := w1.heap.size) (a := ax) (l := l) (by simp)
  clear S1 hb hv
  go_wp2_with fail
  refine (hCo _ _ _ (S2.out.vc (t := w1.heap.size) (l := l) (by simp))).out.mono ?_
  rintro e w3 ⟨rfl, hb⟩
  have S3 := hide1 (S2.out.next hb)
  clear S2 hb c0 c1 c4
  go_wp2_with fail
  refine (hRc _ (HL.out.below S3.out.bl (Nat.le_refl _))).out.mono ?_
  rintro e w4 ⟨rfl, hb⟩
  have S4 := hide1 (S3.out.next hb)
  obtain ⟨c0, c1, c4⟩ := S4.out.box (t := w1.heap.size) (a := ax) (l := l) (by simp)
  clear S3 hb
  go_wp2_with fail
  refine (hOd _ _ _ (S4.out.vc (t := w1.heap.size) (l := l) (by simp))).out.mono ?_
  rintro e w5 ⟨rfl, hb⟩
  have S5 := hide1 (S4.out.next hb)
  clear S4 hb c0 c1 c4
  go_wp2_with fail
  refine (hRc _ (HL.out.below S5.out.bl (Nat.le_refl _))).out.mono ?_
  rintro e w6 ⟨rfl, hb⟩
  have S6 := hide1 (S5.out.next hb)
  clear S5 hb S1'
  have HB6 := hide1 (HL.out.below S6.out.bl (Nat.le_refl _))
  cases ob
  all_goals
    go_wp2_with (at_builtin; go_must (refine wpList_append_own _ rfl _ _ 22 rfl w6.heap.size 4 i0 (.bool false) 1 1 Try.underlying22 hi hz0 hz1 hz2 rfl (by decide) _ 0 [] rfl (World.ownsRow_made w6 #[] 0 (Nat.le_refl _) (by unfold maxLen; omega) rfl) ⟨gl, ol, none⟩ n c (bools l) rfl (by simp [bools, HL.out.len]) (bl_news (HB6.out.below (below_alloc1 w6 (.cells #[] 4)) (Nat.le_refl _))) (bools_one l) (by unfold maxLen; omega) (by omega) (by simp) ?_); intro v' w7 hown' hgrow _; simp only [Nat.zero_add, List.nil_append] at hown'; obtain ⟨gg, cc, rfl, hgg, hgl7⟩ := row_some hown' (by omega); have hce := hown'.cellAt k (by omega); have hfe := hown'.frozenAt k; have hcx : (bools l)[k]? = some (.bool x0) := HX0.out; rw [hcx] at hce; have HO := hide1 hown'; have HB7 := hide1 ((below_alloc1 w6 (.cells #[] 4)).grown hgrow (by simp) (fun b hb => by cases hb; exact Nat.le_refl _)); clear hown' hgrow hcx)
    obtain ⟨W, hW⟩ : ∃ W, w7.setCell ⟨gg, k, none⟩ (.bool t) = W := ⟨_, rfl⟩
    have HW := hide1 hW
    have hst := (HO.out.stored k (.bool t)).1
    rw [hW, bools_set] at hst
    have HWant := hide1 (own_bl hst (by simp [HL.out.len]))
    have HBW : Hid (Below w6.heap.size w6 W) := by rw [← hW]; exact HB7.out.setCell hgg _
    have S8 := hide1 (S6.out.next HBW.out)
    have hG : ∀ p : Bw W, Hid (Calls Try.prog 20 #[.agg #[.int .i64 (n : Int), .slice ax (need n 64) (need n 64)], .int .i64 (k : Int)] p.w fun e w' => e = .returned (.bool x0) ∧ Below p.w.heap.size p.w w') := fun p => hGe _ _ _ ((S8.out.next p.h).vc (t := w1.heap.size) (l := l) (by simp))
    have hS1 : ∀ p : Bw W, Hid (Calls Try.prog 11 #[.agg #[.int .i64 (n : Int), .slice ay (need n 64) (need n 64)], .slice (some ⟨gg, 0, none⟩) n cc] p.w fun e w' => e = .returned (.bool true) ∧ Below p.w.heap.size p.w w') := fun p => hSh _ _ _ _ _ _ ((S8.out.next p.h).vc (t := w2.heap.size) (l := l.set k t) (by simp)) (HWant.out.below p.h (Nat.le_refl _))
    have hS2 : ∀ p : Bw W, Hid (Calls Try.prog 11 #[.agg #[.int .i64 (n : Int), .slice ax (need n 64) (need n 64)], .slice (some ⟨gl, ol, none⟩) n c] p.w fun e w' => e = .returned (.bool true) ∧ Below p.w.heap.size p.w w') := fun p => hSh _ _ _ _ _ _ ((S8.out.next p.h).vc (t := w1.heap.size) (l := l) (by simp)) (HL.out.below (S8.out.next p.h).bl (Nat.le_refl _))
    have hAw := fun p : Bw W => hA p.w
    obtain ⟨y0, y1, _⟩ := S8.out.box (t := w1.heap.size) (a := ax) (l := l) (by simp)
    have y0 := bw_cell y0
    have y1 := bw_cell y1
    obtain ⟨z0, z1, _⟩ := S8.out.box (t := w2.heap.size) (a := ay) (l := l.set k t) (by simp)
    have z0 := bw_cell z0
    have z1 := bw_cell z1
    have u0 := bw_cell ((S8.out.bl.cell (p := ⟨gl, ol + k, none⟩) hgl).trans HCL.out)
    have hne : Nonempty (Bw W) := ⟨⟨W, Below.refl _ _⟩⟩
    have HSB := hide1 S8.out.bl
    rw [hW]
    clear hW hst hA hOf hWi hCo hOd hRc hGe hSh hce hfe S6 S8
    cases x0
    all_goals
      refine wp_region_quiet_bw (by assumption) (by kernel_rfl) ?_
      repeat (go_big_quiet_step (first | (go_at_call 20; exact bw_of (hG _).out) | (go_at_call_of 11 ay; exact bw_of (hS1 _).out) | (go_at_call_of 11 ax; exact bw_of (hS2 _).out) | (go_at_call 9; exact bw_of (hAw _).out)))
      refine wpQuiet_nil ?_
      intro w9 hw9
      obtain ⟨p, rfl⟩ := hw9
      go_wp2
      go_ret
      exact ⟨rfl, HSB.out.trans (p.h.mono HSB.out.size)⟩

end Go.Proofs.Ytnpanmdajcbbfaa
