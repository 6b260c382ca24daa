/- The walk of BitsPairs where the bits are as many. -/
import Derived.Test.YtnpanmdajcbbfaaPa
import Derived.Deep.AppendLies
import Derived.Deep.RegionLaw
namespace Go.Proofs.Ytnpanmdajcbbfaa
open Go.RowKit
set_option maxRecDepth 100000
attribute [local go_sem] not_any mf_any field_words

theorem le_new {B : Nat} {w wr : World} {o : Obj} (h : Below B w wr) (hB : B ≤ w.heap.size := by exact Nat.le_refl _) : B ≤ (wr.alloc o).drew.heap.size := by
  have := h.size
  show B ≤ (wr.alloc o).heap.size
  simp
  omega
theorem le_new' {B : Nat} {w wr : World} {o : Obj} (h : Below B w wr) (hB : B ≤ w.heap.size := by exact Nat.le_refl _) : B ≤ (wr.alloc o).heap.size := by
  have := h.size
  simp
  omega
theorem bools_snoc (l : List Bool) (x : Bool) : bools (l ++ [x]) = bools l ++ [.bool x] := by simp [bools]

theorem apart_row {v1 v2 : Value} (h : v1.ownBlock = none ∨ v1.ownBlock ≠ v2.ownBlock) : v2.ownBlock = none ∨ v2.ownBlock ≠ v1.ownBlock := by
  rcases h with h | h
  · cases h2 : v2.ownBlock with
    | none => exact .inl rfl
    | some x => exact .inr (by rw [h]; exact fun e => by cases e)
  · exact .inr (fun e => h e.symm)

theorem apart_new {v1 v2 : Value} {wr : World} {o : Obj} {g1 n p base e size m : Nat} {xs ys : List Value} {u1 : World} (h : v1.ownBlock = none ∨ v1.ownBlock ≠ v2.ownBlock) (hw : v1.ownBlock = some g1 ∨ g1 = (wr.alloc o).drew.heap.size)
    (_h2 : u1.ownsRow base e size v2 m ys) (h3 : wr.ownsRow base e size v2 m xs) : (Value.slice (some ⟨g1, 0, none⟩) n p).ownBlock ≠ v2.ownBlock := by
  show some g1 ≠ v2.ownBlock
  intro e
  rcases hw with hw | hw
  · rcases h with h | h
    · rw [h] at hw; cases hw
    · exact h (by rw [hw, e])
  · have := (h3.lt g1 e.symm).2
    have hz : (wr.alloc o).drew.heap.size = wr.heap.size + 1 := by show (wr.alloc o).heap.size = _; simp
    omega

theorem apart_both {v1 v2 : Value} {wr u1 : World} {o o' : Obj} {g1 g2 n p n' p' base e size m : Nat} {xs : List Value} (h : v1.ownBlock = none ∨ v1.ownBlock ≠ v2.ownBlock) (hw : v1.ownBlock = some g1 ∨ g1 = (wr.alloc o).drew.heap.size)
    (hw2 : v2.ownBlock = some g2 ∨ g2 = (u1.alloc o').heap.size) (hlt : g1 < u1.heap.size) (h3 : wr.ownsRow base e size v2 m xs) : (Value.slice (some ⟨g1, 0, none⟩) n p).ownBlock ≠ (Value.slice (some ⟨g2, 0, none⟩) n' p').ownBlock := by
  show some g1 ≠ some g2
  intro e
  have e := Option.some.inj e
  subst e
  rcases hw2 with hw2 | hw2
  · exact apart_new (n := n) (p := p) (u1 := wr) h hw h3 h3 hw2.symm
  · simp at hw2
    omega

set_option maxHeartbeats 16000000 in
theorem pairs_any (w : World) (n c c' : Nat) (a b : Option Addr) (la lb : List Bool) (hla : Bl w n a la) (hlb : Bl w n b lb) (hn : n ≤ 1000) :
    Calls Try.prog 5 #[.slice a n c, .slice b n c'] w fun e w' => e = .returned (.bool true) ∧ Below w.heap.size w w' := by
  obtain ⟨i0, hi, hz0, hz1, hz2⟩ := info_parts info4
  have hA := fun w => hide1 (awake_any w)
  have hO1 := fun w h => hide1 (of_any w n c a la h (by omega))
  have hO2 := fun w h => hide1 (of_any w n c' b lb h (by omega))
  have hX := fun w (a b : Option Addr) h1 h2 => hide1 (xor_any w n 0 0 a b la lb h1 h2 (by omega))
  have hY := fun w (a b : Option Addr) h1 h2 => hide1 (and_any w n 0 0 a b la lb h1 h2 (by omega))
  have hE := fun w (a b : Option Addr) h1 h2 => hide1 (equal_any w n n 0 0 a b la lb h1 h2 (by omega))
  have hS := fun w h1 h2 => hide1 (same_bl w n n c c' a b la lb h1 h2 (by omega) (by omega))
  have hN := fun b w (a : Option Addr) h => hide1 (vnot_any b w n a la h (by omega))
  have hSh := fun b w (a av : Option Addr) c l h1 h2 => hide1 (shows_any b w n c a av l h1 h2 (by omega))
  have HA := hide1 hla
  have HB := hide1 hlb
  have h1 : ¬ (1000 : Int) < (n : Int) := by omega
  have h3 : ((n : Int) != (n : Int)) = false := by simp
  clear hla hlb
  generalize decide (la = lb) = d at hE hS
  go_enter Try.func5, Try.ntmps5
  go_wp2_with fail
  refine (hO1 _ HA.out).out.mono ?_
  rintro e w1 ⟨ax, rfl, hv, hb⟩
  have S1 := hide1 (Als.put (ts := []) ⟨by simp, hb⟩ hv)
  clear hv hb
  go_wp2_with fail
  refine (hO2 _ (HB.out.below S1.out.bl (Nat.le_refl _))).out.mono ?_
  rintro e w2 ⟨ay, rfl, hv, hb⟩
  have S2' := hide1 (S1.out.next hb)
  have S2 := hide1 (S2'.out.put hv)
  obtain ⟨c0, c1, c4⟩ := S2'.out.box (t := w1.heap.size) (a := ax) (l := la) (by simp)
  clear hv hb S1 S2'
  go_wp2_with fail
  refine (hX _ _ _ (S2.out.vc (t := w1.heap.size) (a := ax) (by simp)) (S2.out.vc (t := w2.heap.size) (a := ay) (by simp))).out.mono ?_
  rintro e w3 ⟨ap, rfl, hv, hb⟩
  have S3' := hide1 (S2.out.next hb)
  have S3 := hide1 (S3'.out.put hv)
  clear c0 c1 c4 hv hb S2
  obtain ⟨c0, c1, c4⟩ := S3'.out.box (t := w1.heap.size) (a := ax) (l := la) (by simp)
  obtain ⟨d0, d1, d4⟩ := S3'.out.box (t := w2.heap.size) (a := ay) (l := lb) (by simp)
  clear S3'
  go_wp2_with fail
  refine (hY _ _ _ (S3.out.vc (t := w1.heap.size) (a := ax) (by simp)) (S3.out.vc (t := w2.heap.size) (a := ay) (by simp))).out.mono ?_
  rintro e w4 ⟨aq, rfl, hv, hb⟩
  have S4' := hide1 (S3.out.next hb)
  have S4 := hide1 (S4'.out.put hv)
  clear c0 c1 c4 d0 d1 d4 hv hb S3
  obtain ⟨c0, c1, c4⟩ := S4'.out.box (t := w1.heap.size) (a := ax) (l := la) (by simp)
  obtain ⟨d0, d1, d4⟩ := S4'.out.box (t := w2.heap.size) (a := ay) (l := lb) (by simp)
  clear S4'
  go_wp2_with fail
  refine (hE _ _ _ (S4.out.vc (t := w1.heap.size) (a := ax) (by simp)) (S4.out.vc (t := w2.heap.size) (a := ay) (by simp))).out.mono ?_
  rintro e w5 ⟨rfl, hb⟩
  have S5 := hide1 (S4.out.next hb)
  clear hb S4 c0 c1 c4 d0 d1 d4
  go_wp2_with fail
  refine (hS _ (HA.out.below S5.out.bl (Nat.le_refl _)) (HB.out.below S5.out.bl (Nat.le_refl _))).out.mono ?_
  rintro e w6 ⟨rfl, hb⟩
  have S6 := hide1 (S5.out.next hb)
  clear hb S5
  have hdd : (d != d) = false := by simp
  go_wp2_with fail
  go_loopw [13, 14] (fun ov i wr => ∃ k : Nat, k ≤ n ∧ i = .int .i64 k ∧ wr.ownsRow w6.heap.size 4 1 ov k (bools ((la.take k).map (!·))) ∧ Below w6.heap.size w6 wr) (fun _ i _ => n - (intOf i).toNat)
  case atStart => exact ⟨0, Nat.zero_le _, rfl, World.ownsRow_nil _ _ _ _, Below.refl _ _⟩
  case round =>
    obtain ⟨k, hk, rfl, hrow, hB⟩ := hrel
    by_cases hlt : k < n
    · obtain ⟨x, hx⟩ : ∃ x, la[k]? = some x := ⟨_, List.getElem?_eq_getElem (by rw [HA.out.len]; exact hlt)⟩
      obtain ⟨g, o, rfl, hc0⟩ := HA.out.at' k x hx
      have hgl := lt_cell hc0
      have hc := ((S6.out.next hB).bl.cell (p := ⟨g, o + k, none⟩) hgl).trans hc0
      have HT := hide1 (map_snoc hx)
      obtain ⟨ra, rc, rfl⟩ := row_form hrow
      have HW := hide1 (And.intro hrow hB)
      clear hrow hB hx hc0
      cases x
      all_goals
        go_wp2_with (at_builtin; go_must (refine wpList_append_own _ rfl _ _ 22 rfl w6.heap.size 4 i0 (.bool false) 1 1 Try.underlying22 hi hz0 hz1 hz2 rfl (by decide) _ _ _ rfl (HW.out.1.alloc _) ⟨wr.heap.size, 0, none⟩ 1 1 [_] rfl rfl (cell_one_new _ _ _) (by simp [Value.oneCell']) (by unfold maxLen; omega) (by omega) (by have := HW.out.2.size; simp; omega) ?_); intro v' w7 hown' hgrow _)
        go_roundw
        case rel =>
          refine ⟨k + 1, by omega, by go_num, ?_, (HW.out.2.alloc HW.out.2.size _).grown hgrow (by have := HW.out.2.size; simp; omega) (fun b hb => (HW.out.1.lt b hb).1)⟩
          rw [HT.out]
          simpa [bools] using hown'
        case measure => simp [intOf]; omega
    · have : n = k := by omega
      subst this
      obtain ⟨ra, rc, rfl⟩ := row_form hrow
      rw [List.take_of_length_le (by rw [HA.out.len]; omega)] at hrow
      have L7 := hide1 (own_bl hrow (by rw [List.length_map]; exact HA.out.len))
      have S7 := hide1 (S6.out.next hB)
      obtain ⟨c0, c1, c4⟩ := S7.out.box (t := w1.heap.size) (a := ax) (l := la) (by simp)
      clear hrow hB S6
      go_wp2_with fail
      refine (hN _ _ _ (S7.out.vc (t := w1.heap.size) (a := ax) (by simp))).out.mono ?_
      rintro e w8 ⟨a8, rfl, hv8, hb⟩
      have S8 := hide1 (S7.out.next hb)
      have L8 := hide1 (L7.out.below hb (Nat.le_refl _))
      have V8 := hide1 hv8
      clear hb S7 L7 c0 c1 c4 hv8
      go_wp2_with fail
      refine (hSh _ _ _ _ _ _ V8.out L8.out).out.mono ?_
      rintro e w9 ⟨rfl, hb⟩
      have S9 := hide1 (S8.out.next hb)
      clear hb S8 L8 V8
      go_wp2_with fail
      go_loopw [15, 16, 17] (fun o1 o2 i wr => ∃ k : Nat, k ≤ n ∧ i = .int .i64 k ∧ wr.ownsRow w9.heap.size 4 1 o1 k (bools ((List.zipWith (fun x y => x ^^ y) la lb).take k)) ∧ wr.ownsRow w9.heap.size 4 1 o2 k (bools ((List.zipWith (fun x y => x && y) la lb).take k)) ∧ (o1.ownBlock = none ∨ o1.ownBlock ≠ o2.ownBlock) ∧ Below w9.heap.size w9 wr) (fun _ _ i _ => n - (intOf i).toNat)
      case atStart => exact ⟨0, Nat.zero_le _, rfl, World.ownsRow_nil _ _ _ _, World.ownsRow_nil _ _ _ _, .inl rfl, Below.refl _ _⟩
      case round =>
        obtain ⟨k, hk, rfl, hr1, hr2, hap, hB⟩ := hrel
        by_cases hlt : k < n
        · obtain ⟨x, hx⟩ : ∃ x, la[k]? = some x := ⟨_, List.getElem?_eq_getElem (by rw [HA.out.len]; exact hlt)⟩
          obtain ⟨y, hy⟩ : ∃ y, lb[k]? = some y := ⟨_, List.getElem?_eq_getElem (by rw [HB.out.len]; exact hlt)⟩
          obtain ⟨ga, oa, rfl, hca0⟩ := HA.out.at' k x hx
          obtain ⟨gb, ob, rfl, hcb0⟩ := HB.out.at' k y hy
          have hgla := lt_cell hca0
          have hglb := lt_cell hcb0
          have BW := (S9.out.next hB).bl
          have hca := (BW.cell (p := ⟨ga, oa + k, none⟩) hgla).trans hca0
          have hcb := (BW.cell (p := ⟨gb, ob + k, none⟩) hglb).trans hcb0
          have HTX : Hid ((List.zipWith (fun x y => x ^^ y) la lb).take (k + 1) = (List.zipWith (fun x y => x ^^ y) la lb).take k ++ [x ^^ y]) := take_snoc (by rw [List.getElem?_zipWith, hx, hy])
          have HTA : Hid ((List.zipWith (fun x y => x && y) la lb).take (k + 1) = (List.zipWith (fun x y => x && y) la lb).take k ++ [x && y]) := take_snoc (by rw [List.getElem?_zipWith, hx, hy])
          obtain ⟨r1, q1, rfl⟩ := row_form hr1
          obtain ⟨r2, q2, rfl⟩ := row_form hr2
          have HR1 := hide1 hr1
          have HR2 := hide1 hr2
          have HAP := hide1 hap
          have HBB := hide1 hB
          have HCA := hide1 hca0
          have HCB := hide1 hcb0
          clear hr1 hr2 hap hB hx hy hca0 hcb0 BW
          cases x <;> cases y
          · go_wp2_with fail
            go_region_law (refine step_append_lies _ (by rfl) _ _ _ (by rfl) w9.heap.size 4 i0 (.bool false) 1 1 Try.underlying22 hi hz0 hz1 hz2 rfl (by decide) (.slice r1 k q1) k _ (by rfl) ((HR1.out.alloc _).drew) ⟨wr.heap.size, 0, none⟩ 1 1 [.bool false] (by rfl) (by rfl) (cell_one_new wr (.bool false) 4) (by simp [Value.oneCell']) (by omega) (by unfold maxLen; omega) (by omega) (le_new HBB.out) _ rfl ?_; intro g1 p1 u1 ro1 gr1 wh1 lt1)
            all_goals
              have hs1 := gr1.size
              have B1 : Hid (Below w9.heap.size w9 u1) := ((HBB.out.alloc HBB.out.size _).drew).grown gr1 (le_new HBB.out) (fun b hb => (HR1.out.lt b hb).1)
              have K2 : Hid (u1.ownsRow w9.heap.size 4 1 (.slice r2 k q2) k (bools ((List.zipWith (fun x y => x && y) la lb).take k))) := ((HR2.out.alloc _).drew).kept gr1 (apart_row HAP.out)
              have hca1 := ((S9.out.next B1.out).bl.cell (p := ⟨ga, oa + k, none⟩) hgla).trans HCA.out
              have hcb1 := ((S9.out.next B1.out).bl.cell (p := ⟨gb, ob + k, none⟩) hglb).trans HCB.out
              have HRO := hide1 ro1
              have HWH := hide1 wh1
              clear ro1 gr1 wh1 hca hcb
              go_wp2_with (at_builtin; go_must (refine wpList_append_lies _ rfl _ _ 22 rfl w9.heap.size 4 i0 (.bool false) 1 1 Try.underlying22 hi hz0 hz1 hz2 rfl (by decide) (.slice r2 k q2) k _ rfl (K2.out.alloc _) ⟨u1.heap.size, 0, none⟩ 1 1 [.bool false] rfl rfl (cell_one_new u1 (.bool false) 4) (by simp [Value.oneCell']) (by omega) (by unfold maxLen; omega) (by omega) (le_new' B1.out) _ rfl ?_); intro g2 p2 u2 ro2 gr2 wh2 lt2)
              go_roundw
              case rel =>
                refine ⟨k + 1, by omega, by go_num, ?_, ?_, ?_, ?_⟩
                · rw [HTX.out, bools_snoc]
                  exact (HRO.out.alloc _).kept gr2 (.inr (apart_new HAP.out HWH.out (K2.out) (HR2.out)))
                · rw [HTA.out, bools_snoc]
                  exact ro2
                · exact .inr (apart_both HAP.out HWH.out wh2 lt1 (HR2.out))
                · exact (B1.out.alloc B1.out.size _).grown gr2 (le_new' B1.out) (fun b hb => (K2.out.lt b hb).1)
              case measure => simp [intOf]; omega
          · go_wp2_with fail
            go_region_law (refine step_append_lies _ (by rfl) _ _ _ (by rfl) w9.heap.size 4 i0 (.bool false) 1 1 Try.underlying22 hi hz0 hz1 hz2 rfl (by decide) (.slice r1 k q1) k _ (by rfl) ((HR1.out.alloc _).drew) ⟨wr.heap.size, 0, none⟩ 1 1 [.bool true] (by rfl) (by rfl) (cell_one_new wr (.bool true) 4) (by simp [Value.oneCell']) (by omega) (by unfold maxLen; omega) (by omega) (le_new HBB.out) _ rfl ?_; intro g1 p1 u1 ro1 gr1 wh1 lt1)
            all_goals
              have hs1 := gr1.size
              have B1 : Hid (Below w9.heap.size w9 u1) := ((HBB.out.alloc HBB.out.size _).drew).grown gr1 (le_new HBB.out) (fun b hb => (HR1.out.lt b hb).1)
              have K2 : Hid (u1.ownsRow w9.heap.size 4 1 (.slice r2 k q2) k (bools ((List.zipWith (fun x y => x && y) la lb).take k))) := ((HR2.out.alloc _).drew).kept gr1 (apart_row HAP.out)
              have hca1 := ((S9.out.next B1.out).bl.cell (p := ⟨ga, oa + k, none⟩) hgla).trans HCA.out
              have hcb1 := ((S9.out.next B1.out).bl.cell (p := ⟨gb, ob + k, none⟩) hglb).trans HCB.out
              have HRO := hide1 ro1
              have HWH := hide1 wh1
              clear ro1 gr1 wh1 hca hcb
              go_wp2_with (at_builtin; go_must (refine wpList_append_lies _ rfl _ _ 22 rfl w9.heap.size 4 i0 (.bool false) 1 1 Try.underlying22 hi hz0 hz1 hz2 rfl (by decide) (.slice r2 k q2) k _ rfl (K2.out.alloc _) ⟨u1.heap.size, 0, none⟩ 1 1 [.bool false] rfl rfl (cell_one_new u1 (.bool false) 4) (by simp [Value.oneCell']) (by omega) (by unfold maxLen; omega) (by omega) (le_new' B1.out) _ rfl ?_); intro g2 p2 u2 ro2 gr2 wh2 lt2)
              go_roundw
              case rel =>
                refine ⟨k + 1, by omega, by go_num, ?_, ?_, ?_, ?_⟩
                · rw [HTX.out, bools_snoc]
                  exact (HRO.out.alloc _).kept gr2 (.inr (apart_new HAP.out HWH.out (K2.out) (HR2.out)))
                · rw [HTA.out, bools_snoc]
                  exact ro2
                · exact .inr (apart_both HAP.out HWH.out wh2 lt1 (HR2.out))
                · exact (B1.out.alloc B1.out.size _).grown gr2 (le_new' B1.out) (fun b hb => (K2.out.lt b hb).1)
              case measure => simp [intOf]; omega
          · go_wp2_with fail
            go_region_law (refine step_append_lies _ (by rfl) _ _ _ (by rfl) w9.heap.size 4 i0 (.bool false) 1 1 Try.underlying22 hi hz0 hz1 hz2 rfl (by decide) (.slice r1 k q1) k _ (by rfl) ((HR1.out.alloc _).drew) ⟨wr.heap.size, 0, none⟩ 1 1 [.bool true] (by rfl) (by rfl) (cell_one_new wr (.bool true) 4) (by simp [Value.oneCell']) (by omega) (by unfold maxLen; omega) (by omega) (le_new HBB.out) _ rfl ?_; intro g1 p1 u1 ro1 gr1 wh1 lt1)
            all_goals
              have hs1 := gr1.size
              have B1 : Hid (Below w9.heap.size w9 u1) := ((HBB.out.alloc HBB.out.size _).drew).grown gr1 (le_new HBB.out) (fun b hb => (HR1.out.lt b hb).1)
              have K2 : Hid (u1.ownsRow w9.heap.size 4 1 (.slice r2 k q2) k (bools ((List.zipWith (fun x y => x && y) la lb).take k))) := ((HR2.out.alloc _).drew).kept gr1 (apart_row HAP.out)
              have hca1 := ((S9.out.next B1.out).bl.cell (p := ⟨ga, oa + k, none⟩) hgla).trans HCA.out
              have hcb1 := ((S9.out.next B1.out).bl.cell (p := ⟨gb, ob + k, none⟩) hglb).trans HCB.out
              have HRO := hide1 ro1
              have HWH := hide1 wh1
              clear ro1 gr1 wh1 hca hcb
              go_wp2_with (at_builtin; go_must (refine wpList_append_lies _ rfl _ _ 22 rfl w9.heap.size 4 i0 (.bool false) 1 1 Try.underlying22 hi hz0 hz1 hz2 rfl (by decide) (.slice r2 k q2) k _ rfl (K2.out.alloc _) ⟨u1.heap.size, 0, none⟩ 1 1 [.bool false] rfl rfl (cell_one_new u1 (.bool false) 4) (by simp [Value.oneCell']) (by omega) (by unfold maxLen; omega) (by omega) (le_new' B1.out) _ rfl ?_); intro g2 p2 u2 ro2 gr2 wh2 lt2)
              go_roundw
              case rel =>
                refine ⟨k + 1, by omega, by go_num, ?_, ?_, ?_, ?_⟩
                · rw [HTX.out, bools_snoc]
                  exact (HRO.out.alloc _).kept gr2 (.inr (apart_new HAP.out HWH.out (K2.out) (HR2.out)))
                · rw [HTA.out, bools_snoc]
                  exact ro2
                · exact .inr (apart_both HAP.out HWH.out wh2 lt1 (HR2.out))
                · exact (B1.out.alloc B1.out.size _).grown gr2 (le_new' B1.out) (fun b hb => (K2.out.lt b hb).1)
              case measure => simp [intOf]; omega
          · go_wp2_with fail
            go_region_law (refine step_append_lies _ (by rfl) _ _ _ (by rfl) w9.heap.size 4 i0 (.bool false) 1 1 Try.underlying22 hi hz0 hz1 hz2 rfl (by decide) (.slice r1 k q1) k _ (by rfl) ((HR1.out.alloc _).drew) ⟨wr.heap.size, 0, none⟩ 1 1 [.bool false] (by rfl) (by rfl) (cell_one_new wr (.bool false) 4) (by simp [Value.oneCell']) (by omega) (by unfold maxLen; omega) (by omega) (le_new HBB.out) _ rfl ?_; intro g1 p1 u1 ro1 gr1 wh1 lt1)
            all_goals
              have hs1 := gr1.size
              have B1 : Hid (Below w9.heap.size w9 u1) := ((HBB.out.alloc HBB.out.size _).drew).grown gr1 (le_new HBB.out) (fun b hb => (HR1.out.lt b hb).1)
              have K2 : Hid (u1.ownsRow w9.heap.size 4 1 (.slice r2 k q2) k (bools ((List.zipWith (fun x y => x && y) la lb).take k))) := ((HR2.out.alloc _).drew).kept gr1 (apart_row HAP.out)
              have hca1 := ((S9.out.next B1.out).bl.cell (p := ⟨ga, oa + k, none⟩) hgla).trans HCA.out
              have hcb1 := ((S9.out.next B1.out).bl.cell (p := ⟨gb, ob + k, none⟩) hglb).trans HCB.out
              have HRO := hide1 ro1
              have HWH := hide1 wh1
              clear ro1 gr1 wh1 hca hcb
              go_wp2_with (at_builtin; go_must (refine wpList_append_lies _ rfl _ _ 22 rfl w9.heap.size 4 i0 (.bool false) 1 1 Try.underlying22 hi hz0 hz1 hz2 rfl (by decide) (.slice r2 k q2) k _ rfl (K2.out.alloc _) ⟨u1.heap.size, 0, none⟩ 1 1 [.bool true] rfl rfl (cell_one_new u1 (.bool true) 4) (by simp [Value.oneCell']) (by omega) (by unfold maxLen; omega) (by omega) (le_new' B1.out) _ rfl ?_); intro g2 p2 u2 ro2 gr2 wh2 lt2)
              go_roundw
              case rel =>
                refine ⟨k + 1, by omega, by go_num, ?_, ?_, ?_, ?_⟩
                · rw [HTX.out, bools_snoc]
                  exact (HRO.out.alloc _).kept gr2 (.inr (apart_new HAP.out HWH.out (K2.out) (HR2.out)))
                · rw [HTA.out, bools_snoc]
                  exact ro2
                · exact .inr (apart_both HAP.out HWH.out wh2 lt1 (HR2.out))
                · exact (B1.out.alloc B1.out.size _).grown gr2 (le_new' B1.out) (fun b hb => (K2.out.lt b hb).1)
              case measure => simp [intOf]; omega
        · have : n = k := by omega
          subst this
          obtain ⟨r1, q1, rfl⟩ := row_form hr1
          obtain ⟨r2, q2, rfl⟩ := row_form hr2
          rw [List.take_of_length_le (by rw [zip_len _ (by rw [HA.out.len, HB.out.len]), HA.out.len]; omega)] at hr1 hr2
          have L1 := hide1 (own_bl hr1 (by rw [zip_len _ (by rw [HA.out.len, HB.out.len]), HA.out.len]))
          have L2 := hide1 (own_bl hr2 (by rw [zip_len _ (by rw [HA.out.len, HB.out.len]), HA.out.len]))
          have S10 := hide1 (S9.out.next hB)
          obtain ⟨c0, c1, c4⟩ := S10.out.box (t := w3.heap.size) (a := ap) (l := List.zipWith (fun x y => x ^^ y) la lb) (by simp)
          clear hr1 hr2 hap hB S9
          go_wp2_with fail
          refine (hSh _ _ _ _ _ _ (S10.out.vc (t := w3.heap.size) (a := ap) (by simp)) L1.out).out.mono ?_
          rintro e w11 ⟨rfl, hb⟩
          have S11 := hide1 (S10.out.next hb)
          have L3 := hide1 (L2.out.below hb (Nat.le_refl _))
          clear hb S10 c0 c1 c4 L1 L2
          obtain ⟨c0, c1, c4⟩ := S11.out.box (t := w4.heap.size) (a := aq) (l := List.zipWith (fun x y => x && y) la lb) (by simp)
          go_wp2_with fail
          refine (hSh _ _ _ _ _ _ (S11.out.vc (t := w4.heap.size) (a := aq) (by simp)) L3.out).out.mono ?_
          rintro e w12 ⟨rfl, hb⟩
          have S12 := hide1 (S11.out.next hb)
          clear hb S11 c0 c1 c4 L3
          go_wp2_with fail
          refine (hA _).out.mono ?_
          rintro e w13 ⟨rfl, hb⟩
          go_wp2
          go_ret
          exact ⟨rfl, (S12.out.next hb).bl⟩

end Go.Proofs.Ytnpanmdajcbbfaa
