/- The chapter's example; the document's Bit and Column. -/
import Derived.Test.YtaghcbmipihpmaaUh
namespace Go.Proofs.Ytaghcbmipihpmaa
open Go.RowKit
set_option maxRecDepth 100000
attribute [local go_sem] not_any

/- a row, as a value -/
def rw2 (a b : Nat) : Value := .agg #[.int .u64 (a : Int), .int .u64 (b : Int)]
/- a row's bit -/
def bt (a b : Nat) (i : Int) : Bool := if 0 ≤ i ∧ i < 128 then (if i < 64 then a.testBit i.toNat else b.testBit (i.toNat - 64)) else false
theorem bt_no {a b : Nat} {i : Int} (h : i < 0 ∨ 128 ≤ i) : bt a b i = false := if_neg (by omega)
theorem bt_lo {a b k : Nat} (h : k < 64) : bt a b (k : Int) = a.testBit k := by
  rw [bt, if_pos (by omega), if_pos (by omega), Int.toNat_natCast]
theorem bt_hi {a b k : Nat} (h : k < 64) : bt a b ((64 + k : Nat) : Int) = b.testBit k := by
  rw [bt, if_pos (by omega), if_neg (by omega), Int.toNat_natCast, Nat.add_sub_cancel_left]

theorem shr_bit (a k : Nat) : (a / 2 ^ k % 2 == 1) = a.testBit k := by
  rw [Nat.testBit_eq_decide_div_mod_eq]
  rfl
theorem ret_mod (a k : Nat) : ((a : Int) / 2 ^ k % 2 == 1) = (a / 2 ^ k % 2 == 1) := by
  have e : (a : Int) / 2 ^ k = ((a / 2 ^ k : Nat) : Int) := by rw [Int.natCast_ediv, Int.natCast_pow]; rfl
  rw [e]
  generalize a / 2 ^ k = q
  rw [show (q : Int) % 2 = ((q % 2 : Nat) : Int) by omega]
  generalize q % 2 = z
  rw [Bool.eq_iff_iff, beq_iff_eq, beq_iff_eq]
  omega
theorem ret_bool {x y : Bool} (h : x = y) : Ending.returned (.bool x) = .returned (.bool y) := by rw [h]

theorem rbit_any (a b : Nat) (i : Int) (w : World) :
    Calls Try.prog 15 #[rw2 a b, .int .i64 i] w fun e w' => e = .returned (.bool (bt a b i)) ∧ Below w.heap.size w w' := by
  have hB := fun (o : Obj) => hide1 ((Below.refl w.heap.size w).alloc (Nat.le_refl _) o)
  unfold rw2
  by_cases h0 : i < 0
  · rw [bt_no (.inl h0)]
    go_enter Try.func15, Try.ntmps15
    go_wp2
    go_ret
    exact ⟨rfl, (hB _).out⟩
  · have h0' : decide (i < 0) = false := by rw [decide_eq_false_iff_not]; exact h0
    by_cases h1 : 128 ≤ i
    · rw [bt_no (.inr h1)]
      go_enter Try.func15, Try.ntmps15
      go_wp2
      go_ret
      exact ⟨rfl, (hB _).out⟩
    · have h1' : decide (127 < i) = false := by rw [decide_eq_false_iff_not]; omega
      by_cases h2 : i < 64
      · obtain ⟨k, rfl⟩ := Int.eq_ofNat_of_zero_le (show 0 ≤ i by omega)
        have e1 : IntKind.u64.wrap (k : Int) = (k : Int) := by rw [IntKind.wrap_u64]; omega
        rw [bt_lo (by omega), ← shr_bit]
        go_enter Try.func15, Try.ntmps15
        go_wp2
        go_ret
        exact ⟨ret_bool (ret_mod a k), (hB _).out⟩
      · obtain ⟨k, rfl⟩ : ∃ k : Nat, i = ((64 + k : Nat) : Int) := ⟨(i - 64).toNat, by omega⟩
        have hk : k < 64 := by omega
        obtain ⟨m, hm⟩ : ∃ m, m = 64 + k := ⟨_, rfl⟩
        rw [bt_hi hk, ← shr_bit, ← hm]
        have e1 : (m : Int) - 64 = (k : Int) := by omega
        have e3 : IntKind.u64.wrap (k : Int) = (k : Int) := by rw [IntKind.wrap_u64]; omega
        have e4 : decide ((m : Int) < 64) = false := by rw [decide_eq_false_iff_not]; omega
        rw [← hm] at h0 h0' h1 h1' h2
        clear hm
        go_enter Try.func15, Try.ntmps15
        go_wp2
        go_ret
        exact ⟨ret_bool (ret_mod b k), (hB _).out⟩


def RX (j p : Nat) : Nat := if j < 3 ∧ p = 0 then j + 1 else 0
theorem rx_lt (j p : Nat) : RX j p < 18446744073709551616 := by unfold RX; split <;> omega
def rx3 : Obj := .cells #[.int .u64 1, .int .u64 0, .int .u64 2, .int .u64 0, .int .u64 3, .int .u64 0] 39
theorem rx_at {w : World} {g : Nat} (h : w.heap[g]? = some rx3) : Rws w 3 (some ⟨g, 0, none⟩) RX := by
  refine ⟨fun j hj => ⟨g, 0, rfl, ?_, ?_⟩, rx_lt⟩
  · match j, hj with
    | 0, _ => rw [cell_of_row w g _ _ _ _ h]; rfl
    | 1, _ => rw [cell_of_row w g _ _ _ _ h]; rfl
    | 2, _ => rw [cell_of_row w g _ _ _ _ h]; rfl
  · match j, hj with
    | 0, _ => rw [cell_of_row w g _ _ _ _ h]; rfl
    | 1, _ => rw [cell_of_row w g _ _ _ _ h]; rfl
    | 2, _ => rw [cell_of_row w g _ _ _ _ h]; rfl
theorem ex0 : colB RX 3 0 = [true, false, true] := by decide +kernel
theorem ex1 : colB RX 3 1 = [false, true, true] := by decide +kernel
theorem ex2 : (colB RX 3 2).count true = 0 := by decide +kernel
theorem need31 : need 3 64 = 1 := by decide

set_option maxHeartbeats 2000000 in
theorem awake_any (w : World) : Calls Try.prog 6 #[] w fun e w' => e = .returned (.bool true) ∧ Below w.heap.size w w' := by
  have kC := fun w a h => hide1 (cols_any w 3 3 a RX h (by omega) (by omega))
  have kB := fun w (a : Option Addr) l h => hide1 (bools_any 0 w 3 a l h (by omega))
  have kN := fun w (a : Option Addr) l h => hide1 (count_bl 0 w 3 a l h (by omega))
  have kS := fun w (a b : Option Addr) xs ys h1 h2 => hide1 (same_any w 3 3 3 3 a b xs ys h1 h2 (by omega) (by omega))
  rw [need31] at kB kN
  go_enter Try.func6, Try.ntmps6
  go_wp2_with fail
  refine (kC _ _ (rx_at (heap_alloc_new w rx3))).out.mono ?_
  rintro e w1 ⟨g, aa, rfl, hv, hb⟩
  have H1 := hide1 (below_after (o := rx3) hb)
  have V1 := hide1 hv
  clear hv hb kC
  have cells : ∀ W, Vcs W 128 (some ⟨g, 0, none⟩) (fun _ => 3) aa (colB RX 3) → W.cell? ⟨g, 0, none⟩ = some (.int .i64 3) ∧ W.cell? ⟨g, 1, none⟩ = some (.slice (aa 0) 1 1) ∧ W.cell? ⟨g, 2, none⟩ = some (.int .i64 3) ∧ W.cell? ⟨g, 3, none⟩ = some (.slice (aa 1) 1 1) ∧ W.cell? ⟨g, 4, none⟩ = some (.int .i64 3) ∧ W.cell? ⟨g, 5, none⟩ = some (.slice (aa 2) 1 1) := fun W h => by
    obtain ⟨g', o', e, _, hc⟩ := h.first (by omega)
    cases e
    exact ⟨(hc 0 (by omega)).1, (hc 0 (by omega)).2, (hc 1 (by omega)).1, (hc 1 (by omega)).2, (hc 2 (by omega)).1, (hc 2 (by omega)).2⟩
  have CE := hide1 cells
  clear cells
  obtain ⟨c0, c1, _⟩ := CE.out w1 V1.out
  obtain ⟨a0, ha0⟩ : ∃ a0, a0 = aa 0 := ⟨_, rfl⟩
  have v0 := V1.out.vc 0 (by omega)
  rw [← ha0] at c1 v0
  clear ha0
  go_wp2_with fail
  refine (kB _ _ _ v0).out.mono ?_
  rintro e w2 ⟨a2, rfl, hl2, hb2⟩
  rw [ex0] at hl2
  have V2 := hide1 (V1.out.below hb2 (Nat.le_refl _))
  have H2 := hide1 (H1.out.trans (hb2.mono H1.out.size))
  clear c0 c1 v0 V1 H1 hb2
  go_wp2_with fail
  refine (kS _ _ _ _ _ (hl2.below (below_alloc1 _ _) (Nat.le_refl _)) (bl_of_row (l := [true, false, true]) (heap_alloc_new w2 _))).out.mono ?_
  rintro e w3 ⟨rfl, q3, rfl⟩
  have b3 : Below w2.heap.size w2 ((w2.alloc (brow [true, false, true])).drewN q3) := (below_alloc1 _ _).trans (below_dn _ _ _)
  have V3 := hide1 (V2.out.below b3 (Nat.le_refl _))
  have H3 := hide1 (H2.out.trans (b3.mono H2.out.size))
  generalize hW3 : World.drewN _ _ = W3
  have V4 : Hid (Vcs W3 128 (some ⟨g, 0, none⟩) (fun _ => 3) aa (colB RX 3)) := by rw [← hW3]; exact V3.out
  have H4 : Hid (Below w.heap.size w W3) := by rw [← hW3]; exact H3.out
  clear V3 H3 hW3 b3 V2 H2 hl2
  obtain ⟨_, _, c0, c1, _⟩ := CE.out W3 V4.out
  obtain ⟨a1, ha1⟩ : ∃ a1, a1 = aa 1 := ⟨_, rfl⟩
  have v0 := V4.out.vc 1 (by omega)
  rw [← ha1] at c1 v0
  clear ha1
  go_wp2_with fail
  refine (kB _ _ _ v0).out.mono ?_
  rintro e w2 ⟨a2, rfl, hl2, hb2⟩
  rw [ex1] at hl2
  have V2 := hide1 (V4.out.below hb2 (Nat.le_refl _))
  have H2 := hide1 (H4.out.trans (hb2.mono H4.out.size))
  clear c0 c1 v0 V4 H4 hb2
  go_wp2_with fail
  refine (kS _ _ _ _ _ (hl2.below (below_alloc1 _ _) (Nat.le_refl _)) (bl_of_row (l := [false, true, true]) (heap_alloc_new w2 _))).out.mono ?_
  rintro e w3 ⟨rfl, q3, rfl⟩
  have b3 : Below w2.heap.size w2 ((w2.alloc (brow [false, true, true])).drewN q3) := (below_alloc1 _ _).trans (below_dn _ _ _)
  have V3 := hide1 (V2.out.below b3 (Nat.le_refl _))
  have H3 := hide1 (H2.out.trans (b3.mono H2.out.size))
  generalize hW3 : World.drewN _ _ = W3
  have V4 : Hid (Vcs W3 128 (some ⟨g, 0, none⟩) (fun _ => 3) aa (colB RX 3)) := by rw [← hW3]; exact V3.out
  have H4 : Hid (Below w.heap.size w W3) := by rw [← hW3]; exact H3.out
  clear V3 H3 hW3 b3 V2 H2 hl2
  obtain ⟨_, _, _, _, c0, c1⟩ := CE.out W3 V4.out
  obtain ⟨a1, ha1⟩ : ∃ a1, a1 = aa 2 := ⟨_, rfl⟩
  have v0 := V4.out.vc 2 (by omega)
  rw [← ha1] at c1 v0
  clear ha1
  go_wp2_with fail
  refine (kN _ _ _ v0).out.mono ?_
  rw [ex2]
  rintro e w2 ⟨rfl, hb2⟩
  have H2 := hide1 (H4.out.trans (hb2.mono H4.out.size))
  clear c0 c1 v0 V4 H4 hb2
  go_wp2
  go_ret
  exact ⟨rfl, H2.out⟩
end Go.Proofs.Ytaghcbmipihpmaa
