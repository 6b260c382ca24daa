/- Bits read of a list. -/
import Derived.Test.YtmmhfipdolbinaaGreatDoorRy
namespace Go.Proofs.YtmmhfipdolbinaaGreatDoor
open Go.RowKit
set_option maxRecDepth 100000
attribute [local go_sem] not_any mf_any field_words

/- is nothing behind the last bit? -/
def cleanB (n : Nat) (H : List Nat) : Bool := (List.range (8 * H.length)).all (fun k => decide (k < n) || !(H.getD (k / 8) 0).testBit (k % 8))
theorem cleanB_iff {n : Nat} {s : ByteArray} : cleanB n (nums s) = true ↔ Clean n s := by
  unfold cleanB
  rw [List.all_eq_true]
  constructor
  · intro h k x hx j hj hn
    have hk : k < (nums s).length := (List.getElem?_eq_some_iff.1 hx).1
    have := h (8 * k + j) (List.mem_range.2 (by omega))
    rw [Nat.mul_add_div (by omega), Nat.mul_add_mod, Nat.div_eq_of_lt hj, Nat.mod_eq_of_lt hj, Nat.add_zero, List.getD_eq_getElem?_getD, hx] at this
    have hd : decide (8 * k + j < n) = false := by rw [decide_eq_false_iff_not]; omega
    rw [hd] at this
    simpa using this
  · intro h k hk
    have hk' := List.mem_range.1 hk
    by_cases hn : k < n
    · simp [hn]
    · obtain ⟨x, hx⟩ : ∃ x, (nums s)[k / 8]? = some x := ⟨_, List.getElem?_eq_getElem (by omega)⟩
      have := h _ _ hx (k % 8) (Nat.mod_lt _ (by omega)) (by omega)
      rw [List.getD_eq_getElem?_getD, hx]
      simp [this]
theorem unclean {n : Nat} {s : ByteArray} (hs : s.size = need n 8) (h : ¬ Clean n s) : ∃ x, 0 < n % 8 ∧ (nums s)[need n 8 - 1]? = some x ∧ x / 2 ^ (n % 8) ≠ 0 := by
  have h' : ∃ k x j, (nums s)[k]? = some x ∧ j < 8 ∧ n ≤ 8 * k + j ∧ x.testBit j = true := Classical.byContradiction fun hno => h fun k x hx j hj hn => by
    cases hb : x.testBit j with
    | false => rfl
    | true => exact absurd ⟨k, x, j, hx, hj, hn, hb⟩ hno
  obtain ⟨k, x, j, hx, hj, hn, hb⟩ := h'
  have hk : k < s.size := by rw [← nums_length]; exact (List.getElem?_eq_some_iff.1 hx).1
  rw [hs, need8] at hk
  have e : k = need n 8 - 1 := by rw [need8]; omega
  refine ⟨x, by omega, by rw [← e]; exact hx, fun h0 => ?_⟩
  have hlt : x < 2 ^ (n % 8) := by
    rcases Nat.lt_or_ge x (2 ^ (n % 8)) with h1 | h1
    · exact h1
    · have := Nat.div_pos h1 (Nat.pow_pos (by omega : 0 < 2))
      omega
  have := Nat.testBit_lt_two_pow (Nat.lt_of_lt_of_le hlt (Nat.pow_le_pow_right (by omega) (show n % 8 ≤ j by omega)))
  rw [this] at hb
  cases hb

/- what Bits answers: the bits, the code, how many bytes -/
def btL (R : List Nat) : List Bool := rbits (cntN R) (txt (lstH 1 R))
def btC (most : Int) (R : List Nat) : Int :=
  if lstC (mostN most 524288) 1 R ≠ 0 then lstC (mostN most 524288) 1 R else if cleanB (cntN R) (lstH 1 R) then 0 else 13
def btS (most : Int) (R : List Nat) : Nat :=
  if lstC (mostN most 524288) 1 R ≠ 0 then 0 else 4 + need (cntN R) 8

def B1Post (l : List Bool) (sz : Nat) (code : Int) (w : World) (e : Ending) (w' : World) : Prop :=
  ∃ xi a m c, e = .returned (.tuple #[.agg #[.int .i64 xi, .slice a m c], .int .i64 (sz : Int), .int .i64 code]) ∧
    Shy (code = 0 → ∃ n : Nat, xi = n ∧ m = need n 64 ∧ c = need n 64 ∧ n ≤ 524288 ∧ Vc w.heap.size w' n a l) ∧ Below w.heap.size w w'

theorem results_ctt {fn : Func} {p u v : Tmp} {ty : TypeId} (h : fn.results = #[.cell p ty, .tmp u, .tmp v]) (tmps : Array Value) (P : Program) (w : World) :
    (results fn tmps).run P w =
      ((asAddr (tmps.getD p undef)).run P w).andThen fun a w₁ => ((loadVar ty a).run P w₁).andThen fun x w₂ => .ok (.tuple #[x, tmps.getD u undef, tmps.getD v undef]) w₂ := by
  simp only [results, h]
  simp [Sem.run_bind, Result.andThen]
theorem ret_ctt {fn : Func} {p u v : Tmp} (h : fn.results = #[.cell p 60, .tmp u, .tmp v]) {R : Ending → World → Prop} {a : Act} {w : World} (g : Nat) (x y z z' : Value) (hp : a.tmps.getD p undef = .pointer (some ⟨g, 0, none⟩))
    (hu : a.tmps.getD u undef = z) (hv : a.tmps.getD v undef = z') (hg : w.heap[g]? = some (.cells #[x, y] 60 (0, 0))) (hd : a.defers = []) (hR : R (.returned (.tuple #[.agg #[x, y], z, z'])) w) : bodyPost Tryz.prog fn R .ret a w := by
  refine bodyPost_ret (v := .tuple #[.agg #[x, y], z, z']) ?_ hd hR
  have hl := run_loadVar_row (P := Tryz.prog) w g 60 60 #[x, y] (0, 0) _ hg Tryz.underlying60 rfl (by kernel_rfl)
  rw [results_ctt h, hp, hu, hv]
  simp [asAddr, hl, Result.andThen]

set_option maxHeartbeats 4000000 in
theorem bits1_any (most : Int) (b : Nat) (t : ByteArray) (w : World) (hb1 : w.cell? ⟨b, 0, none⟩ = some (.int .i64 most)) (ht : t.size ≤ 281474976710656) :
    Calls Tryz.prog 57 #[.string t, .pointer (some ⟨b, 0, none⟩)] w (B1Post (btL (nums t)) (btS most (nums t)) (btC most (nums t)) w) := by
  have k2 := fun w => hide1 (counted_any (mostN most 524288) 1 t w (by have := mostN_le most 524288; omega) (by omega) ht)
  have HK : Hid (∃ (cn : Int) (tv : ByteArray) (code : Int), tv.size ≤ 281474976710656 ∧ (∀ w e w', LPost (mostN most 524288) 1 (nums t) w e w' → e = .returned (.tuple #[.agg #[.int .i64 cn, .string tv], .int .i64 code]) ∧ Below w.heap.size w w') ∧
      (code ≠ 0 → ∀ e w', e = .returned (.tuple #[.agg #[.int .i64 0, .slice none 0 0], .int .i64 0, .int .i64 code]) → Below w.heap.size w w' → B1Post (btL (nums t)) (btS most (nums t)) (btC most (nums t)) w e w') ∧
      (code = 0 → ∀ Y, Below w.heap.size w Y → Calls Tryz.prog 58 #[.int .i64 cn, .string tv] Y fun e w' => ∃ (xi : Int) (a : Option Addr) (m c : Nat) (cd : Int), e = .returned (.tuple #[.agg #[.int .i64 xi, .slice a m c], .int .i64 cd]) ∧ Below Y.heap.size Y w' ∧
        ∀ e2 w2, e2 = .returned (.tuple #[.agg #[.int .i64 xi, .slice a m c], .int .i64 ((4 + tv.size : Nat) : Int), .int .i64 cd]) → Below w.heap.size w w2 → (∀ n l, Vc Y.heap.size w' n a l → Vc Y.heap.size w2 n a l) → B1Post (btL (nums t)) (btS most (nums t)) (btC most (nums t)) w e2 w2)) := by
    by_cases hc : lstC (mostN most 524288) 1 (nums t) = 0
    · have hl := lstH_length hc
      have hm := mostN_le most 524288
      rw [Nat.mul_one] at hl
      have hsz : (txt (lstH 1 (nums t))).size = need (cntN (nums t)) 8 := by rw [txt_size (lstH_lt _ t), need8]; exact hl.1
      have hS : btS most (nums t) = 4 + need (cntN (nums t)) 8 := by rw [btS, hc, if_neg (by simp)]
      refine ⟨(cntN (nums t) : Nat), txt (lstH 1 (nums t)), 0, ?_, fun w e w' hp => ⟨hp.1 hc, hp.2.2⟩, fun h => absurd rfl h, fun _ Y hY => ?_⟩
      · have := nums_length t
        rw [hsz, need8]
        omega
      · by_cases hcl : Clean (cntN (nums t)) (txt (lstH 1 (nums t)))
        · have hC : btC most (nums t) = 0 := by
            have := cleanB_iff.2 hcl
            rw [nums_txt (lstH_lt _ t)] at this
            rw [btC, hc, if_neg (by simp), if_pos this]
          refine (read_any (cntN (nums t)) Y (txt (lstH 1 (nums t))) (by omega) hsz hcl).mono ?_
          rintro e w' ⟨a, rfl, hv, hb⟩
          refine ⟨_, a, _, _, 0, rfl, hb, fun e2 w2 he2 hb2 hvk => ?_⟩
          rw [hC, hS]
          rw [hsz] at he2
          exact ⟨_, a, _, _, he2, ⟨fun _ => ⟨_, rfl, rfl, rfl, by omega, (hvk _ _ hv).mono hY.size⟩⟩, hb2⟩
        · have hC : btC most (nums t) = 13 := by
            have : ¬ cleanB (cntN (nums t)) (lstH 1 (nums t)) = true := fun h => hcl (by
              refine cleanB_iff.1 ?_
              rw [nums_txt (lstH_lt _ t)]
              exact h)
            rw [btC, hc, if_neg (by simp), if_neg this]
          obtain ⟨x, q1, q2, q3⟩ := unclean hsz hcl
          refine (read_form (cntN (nums t)) Y (txt (lstH 1 (nums t))) x (by omega) hsz q1 q2 q3).mono ?_
          rintro e w' ⟨rfl, hb⟩
          refine ⟨0, none, 0, 0, 13, rfl, hb, fun e2 w2 he2 hb2 _ => ?_⟩
          rw [hC, hS]
          rw [hsz] at he2
          exact ⟨_, _, _, _, he2, ⟨fun h => by cases h⟩, hb2⟩
    · refine ⟨0, ⟨#[]⟩, lstC (mostN most 524288) 1 (nums t), by decide, fun w e w' hp => ⟨hp.2.1 hc, hp.2.2⟩, fun _ e w' he hb => ?_, fun h => absurd h hc⟩
      have hC : btC most (nums t) = lstC (mostN most 524288) 1 (nums t) := by rw [btC, if_pos hc]
      have hS : btS most (nums t) = 0 := by rw [btS, if_pos hc]
      rw [hC, hS]
      exact ⟨_, _, _, _, he, ⟨fun h => absurd h hc⟩, hb⟩
  obtain ⟨cn, tv, code, e3, HP0, HNO0, HYES0⟩ := HK.out
  have HP := hide1 HP0
  have HNO : Shy _ := ⟨HNO0⟩
  have HYES : Shy _ := ⟨HYES0⟩
  have kS := fun w => hide1 (size_any cn tv w e3)
  clear HP0 HNO0 HYES0 HK e3
  generalize B1Post (btL (nums t)) (btS most (nums t)) (btC most (nums t)) w = PP at *
  generalize LPost (mostN most 524288) 1 (nums t) = PL at *
  have HB1 := hide1 hb1
  have hlb := lt_cell hb1
  rcases mostN_cases most 524288 with ⟨hm, em⟩ | ⟨hm, em⟩ <;> rw [em] at k2 <;> clear em
  all_goals
    go_enter Tryz.func57, Tryz.ntmps57
    go_wp2_with fail
    refine (k2 _).out.mono ?_
    intro e w1 hP1
    obtain ⟨rfl, hc1⟩ := HP.out _ e w1 hP1
    have hz1 := hc1.size
    have hr0 := after_alloc hc1
    have HB0 := hide1 (below_after hc1)
    clear hP1 k2 hc1
    by_cases hcode : code = 0
    · have HY := hide1 (HYES.out hcode)
      subst hcode
      go_wp2_with fail
      generalize hX : World.alloc w1 _ = X
      have hxr : X.heap[w1.heap.size]? = some (.cells #[.int .i64 cn, .string tv] 88 (0, 0)) := by rw [← hX]; exact heap_alloc_new _ _
      have hx0 : X.heap[w.heap.size]? = some (.cells #[.int .i64 0, .slice none 0 0] 60 (0, 0)) := by rw [← hX]; exact (Below.heap_alloc _ _ _ (lt_heap hr0)).trans hr0
      have HBX : Hid (Below w.heap.size w X) := by rw [← hX]; exact HB0.out.alloc (by have := HB0.out.size; omega) _
      clear hX hr0
      have kR := hide1 (HY.out X HBX.out)
      refine kR.out.mono ?_
      rintro e w2 ⟨xi, a, m, c, cd, rfl, hb2, hfin⟩
      have HF : Shy _ := ⟨hfin⟩
      have hxr2 := (hb2.block _ (lt_heap hxr)).trans hxr
      have hx02 := (hb2.block _ (lt_heap hx0)).trans hx0
      have HB2 := hide1 (HBX.out.trans (hb2.mono HBX.out.size))
      have HZ2 := hide1 hb2.size
      have HXZ := hide1 (lt_heap hx0)
      have hne1 : w.heap.size ≠ w2.heap.size := Nat.ne_of_lt (lt_heap hx02)
      clear hfin hb2 hxr hx0 kR HY
      go_upto_region 5 with (fail)
      generalize hZ : World.alloc w2 _ = Z
      have hzv : Z.heap[w2.heap.size]? = some (.cells #[.int .i64 xi, .slice a m c] 60 (0, 0)) := by rw [← hZ]; exact heap_alloc_new _ _
      have hzl : Z.heap[w1.heap.size]? = some (.cells #[.int .i64 cn, .string tv] 88 (0, 0)) := by rw [← hZ]; exact (Below.heap_alloc _ _ _ (lt_heap hxr2)).trans hxr2
      have hz0 : Z.heap[w.heap.size]? = some (.cells #[.int .i64 0, .slice none 0 0] 60 (0, 0)) := by rw [← hZ]; exact (Below.heap_alloc _ _ _ (lt_heap hx02)).trans hx02
      have HBZ : Hid (Below w.heap.size w Z) := by rw [← hZ]; exact HB2.out.alloc HB2.out.size _
      have HZ22 : Hid (Below w2.heap.size w2 Z) := by rw [← hZ]; exact (Below.refl _ _).alloc (Nat.le_refl _) _
      obtain ⟨v0, v1, _, _, lv⟩ := box2 hzv
      obtain ⟨l0, l1, _, _, ll⟩ := box2 hzl
      obtain ⟨r0, r1, r2, r3, lr⟩ := box2 hz0
      have HZ0 := hide1 hz0
      clear hZ hzv hzl hz0 hxr2 hx02
      go_region_with (go_at_call 47; refine (kS _).out.mono ?_; rintro e w6 ⟨rfl, rfl⟩)
      all_goals
        go_wp2
        exact ret_ctt Tryz.results57 w.heap.size _ _ _ _ rfl rfl rfl ((Below.heap_alloc _ _ _ (by simpa using lr)).trans (set_box2 HZ0.out)) rfl (HF.out _ _ rfl ((((HBZ.out.setCell (Nat.le_refl _) _).setCell (Nat.le_refl _) _).alloc (by simpa using HBZ.out.size) _).drew) (fun n l hv => ((((hv.below HZ22.out (Nat.le_refl _)).setCell HXZ.out _).setCell HXZ.out _).alloc _).drew))
    · have hcn : (code != 0) = true := by simpa using hcode
      have hcn2 : (code == 0) = false := by simpa using hcode
      obtain ⟨r0, r1, r2, r3, lr⟩ := box2 hr0
      go_wp2
      exact ret_ctt Tryz.results57 w.heap.size _ _ _ _ rfl rfl rfl ((Below.heap_alloc _ _ _ (by simpa using lr)).trans (set_box2 hr0)) rfl (HNO.out hcode _ _ rfl (((HB0.out.setCell (Nat.le_refl _) _).setCell (Nat.le_refl _) _).alloc (by simpa using HB0.out.size) _))
end Go.Proofs.YtmmhfipdolbinaaGreatDoor
