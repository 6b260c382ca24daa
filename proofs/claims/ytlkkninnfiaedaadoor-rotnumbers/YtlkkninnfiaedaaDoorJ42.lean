/- Cols. The chapter's example; the document's Bit and Column. The document's Column; columns of one length; their words. -/
import Derived.Test.YtlkkninnfiaedaaDoorJ41
namespace Go.Proofs.YtlkkninnfiaedaaDoor.T
open Go.RowKit
set_option maxRecDepth 100000
attribute [local go_sem] not_any mf_any

def colAt (R : Nat → Nat → Nat) (n nb p b k : Nat) : List Nat := (List.range nb).map fun q => if k / 64 < p ∨ (k / 64 = p ∧ q < b) then turned (blkF R n (k / 64) q) (k % 64) else 0
def colB (R : Nat → Nat → Nat) (n k : Nat) : List Bool := (List.range n).map fun j => (R j (k / 64)).testBit (k % 64)
theorem colAt_get {R : Nat → Nat → Nat} {n nb p b k q : Nat} (h : q < nb) : (colAt R n nb p b k)[q]? = some (if k / 64 < p ∨ (k / 64 = p ∧ q < b) then turned (blkF R n (k / 64) q) (k % 64) else 0) := by simp [colAt, h]
theorem colAt_zero (R : Nat → Nat → Nat) (n nb k : Nat) : colAt R n nb 0 0 k = List.replicate nb 0 := by
  refine List.ext_getElem? fun q => ?_
  by_cases hq : q < nb
  · rw [colAt_get hq, if_neg (by omega)]; simp [hq]
  · rw [List.getElem?_eq_none (by simp [colAt]; omega), List.getElem?_eq_none (by simp; omega)]
theorem colAt_over (R : Nat → Nat → Nat) (n nb p k : Nat) : colAt R n nb p nb k = colAt R n nb (p + 1) 0 k := by
  refine List.ext_getElem? fun q => ?_
  by_cases hq : q < nb
  · rw [colAt_get hq, colAt_get hq]
    by_cases h : k / 64 < p + 1
    · rw [if_pos (by omega), if_pos (by omega)]
    · rw [if_neg (by omega), if_neg (by omega)]
  · rw [List.getElem?_eq_none (by simp [colAt]; omega), List.getElem?_eq_none (by simp [colAt]; omega)]
theorem colAt_next (R : Nat → Nat → Nat) (n nb p b k : Nat) : laidTo (colAt R n nb p b) (p * 64) b (turned (blkF R n p b)) 64 k = colAt R n nb p (b + 1) k := by
  unfold laidTo
  refine List.ext_getElem? fun q => ?_
  by_cases hq : q < nb
  · rw [colAt_get hq]
    by_cases h : p * 64 ≤ k ∧ k < p * 64 + 64
    · have e1 : k / 64 = p := by omega
      have e2 : k - p * 64 = k % 64 := by omega
      rw [if_pos h, List.getElem?_set, show (colAt R n nb p b k).length = nb by simp [colAt], e2]
      by_cases hb : b = q
      · subst hb
        rw [if_pos rfl, if_pos hq, if_pos (by omega), e1]
      · rw [if_neg hb, colAt_get hq]
        by_cases h2 : q < b
        · rw [if_pos (by omega), if_pos (by omega)]
        · rw [if_neg (by omega), if_neg (by omega)]
    · rw [if_neg h, colAt_get hq]
      by_cases h2 : k / 64 < p
      · rw [if_pos (.inl h2), if_pos (.inl h2)]
      · rw [if_neg (by omega), if_neg (by omega)]
  · have l1 : ∀ c, (colAt R n nb p c k).length = nb := fun c => by simp [colAt]
    rw [show (colAt R n nb p (b + 1) k)[q]? = none from List.getElem?_eq_none (by rw [l1]; omega)]
    by_cases h : p * 64 ≤ k ∧ k < p * 64 + 64
    · rw [if_pos h, List.getElem?_eq_none (by rw [List.length_set, l1]; omega)]
    · rw [if_neg h, List.getElem?_eq_none (by rw [l1]; omega)]
theorem colAt_lt {w : World} {n : Nat} {a : Option Addr} {R : Nat → Nat → Nat} (h : Rws w n a R) {nb p b k j x : Nat} (hx : (colAt R n nb p b k)[j]? = some x) : x < 18446744073709551616 := by
  have hj : j < nb := by have := (List.getElem?_eq_some_iff.1 hx).1; simpa [colAt] using this
  rw [colAt_get hj] at hx
  cases hx
  split
  · exact turned_lt (fun i _ => blkF_lt h _ _ i) (Nat.mod_lt _ (by omega))
  · omega
theorem colAt_bits (R : Nat → Nat → Nat) (n k : Nat) (hk : k < 128) : bitsOf n (colAt R n (need n 64) 2 0 k) = colB R n k := by
  unfold bitsOf colB
  refine List.map_congr_left fun j hj => ?_
  have hjn := List.mem_range.1 hj
  have hq : j / 64 < need n 64 := by rw [need64]; omega
  rw [List.getD_eq_getElem?_getD, colAt_get hq, if_pos (by omega), Option.getD_some, turned_bit (Nat.mod_lt _ (by omega)) (Nat.mod_lt _ (by omega)), blkF, if_pos (by omega), show j / 64 * 64 + j % 64 = j by omega]

/- Cols on its way -/
structure Cst (w wr : World) (B1 b5 gh : Nat) (gi : Nat → Nat) (a : Option Addr) (n c nb : Nat) (F : Nat → List Nat) : Prop where
  c1 : wr.cell? ⟨B1, 0, none⟩ = some (.slice a n c)
  c5 : wr.cell? ⟨b5, 0, none⟩ = some (.slice (some ⟨gh, 0, none⟩) 128 128)
  wd : Wds gh wr gh gi 128 nb F
  bel : Below w.heap.size w wr
  ne : ∀ i, i < 128 → b5 ≠ gi i
  lt : B1 < gh
  le : w.heap.size ≤ gh
theorem Cst.below {w wr wr' : World} {B1 b5 gh : Nat} {gi : Nat → Nat} {a : Option Addr} {n c nb : Nat} {F : Nat → List Nat} (h : Cst w wr B1 b5 gh gi a n c nb F) (hb : Below wr.heap.size wr wr') : Cst w wr' B1 b5 gh gi a n c nb F :=
  ⟨(hb.cell (p := ⟨B1, 0, none⟩) (lt_cell h.c1)).trans h.c1, (hb.cell (p := ⟨b5, 0, none⟩) (lt_cell h.c5)).trans h.c5, h.wd.all hb, h.bel.trans (hb.mono h.bel.size), h.ne, h.lt, h.le⟩
theorem Cst.laid {w wr wr' : World} {B1 b5 gh : Nat} {gi : Nat → Nat} {a : Option Addr} {n c nb : Nat} {F G : Nat → List Nat} (h : Cst w wr B1 b5 gh gi a n c nb F) (hw : Wds gh wr' gh gi 128 nb G) (hk : Kpw gh wr wr' 128 gi) : Cst w wr' B1 b5 gh gi a n c nb G :=
  ⟨(hk.bel.cell (p := ⟨B1, 0, none⟩) h.lt).trans h.c1, (cell_heap (hk.oth b5 (lt_cell h.c5) h.ne) 0).trans h.c5, hw, h.bel.trans (hk.bel.mono h.le), h.ne, h.lt, h.le⟩

end Go.Proofs.YtlkkninnfiaedaaDoor.T

namespace Go.Proofs.YtlkkninnfiaedaaDoor.T
open Go.RowKit
set_option maxRecDepth 100000
attribute [local go_sem] not_any

/- a row, as a value -/
def rw2 (a b : Nat) : Value := .agg #[.int .u64 (a : Int), .int .u64 (b : Int)]
/- a row's bit -/
def bt (a b : Nat) (i : Int) : Bool := if 0 ≤ i ∧ i < 128 then (if i < 64 then a.testBit i.toNat else b.testBit (i.toNat - 64)) else false
theorem bt_no {a b : Nat} {i : Int} (h : i < 0 ∨ 128 ≤ i) : bt a b i = false := if_neg (by omega)
theorem bt_lo {a b k : Nat} (h : k < 64) : bt a b (k : Int) = a.testBit k := by
  rw [bt, if_pos (by omega), if_pos (by omega), Int.toNat_natCast]
theorem bt_hi {a b k : Nat} (h : k < 64) : bt a b ((64 + k : Nat) : Int) = b.testBit k := by
  rw [bt, if_pos (by omega), if_neg (by omega), Int.toNat_natCast, Nat.add_sub_cancel_left]

theorem shr_bit (a k : Nat) : (a / 2 ^ k % 2 == 1) = a.testBit k := by
  rw [Nat.testBit_eq_decide_div_mod_eq]
  rfl
theorem ret_mod (a k : Nat) : ((a : Int) / 2 ^ k % 2 == 1) = (a / 2 ^ k % 2 == 1) := by
  have e : (a : Int) / 2 ^ k = ((a / 2 ^ k : Nat) : Int) := by rw [Int.natCast_ediv, Int.natCast_pow]; rfl
  rw [e]
  generalize a / 2 ^ k = q
  rw [show (q : Int) % 2 = ((q % 2 : Nat) : Int) by omega]
  generalize q % 2 = z
  rw [Bool.eq_iff_iff, beq_iff_eq, beq_iff_eq]
  omega
theorem ret_bool {x y : Bool} (h : x = y) : Ending.returned (.bool x) = .returned (.bool y) := by rw [h]

theorem rbit_any (a b : Nat) (i : Int) (w : World) :
    Calls Tryd.prog 54 #[rw2 a b, .int .i64 i] w fun e w' => e = .returned (.bool (bt a b i)) ∧ Below w.heap.size w w' := by
  have hB := fun (o : Obj) => hide1 ((Below.refl w.heap.size w).alloc (Nat.le_refl _) o)
  unfold rw2
  by_cases h0 : i < 0
  · rw [bt_no (.inl h0)]
    go_enter Tryd.func54, Tryd.ntmps54
    go_wp2
    go_ret
    exact ⟨rfl, (hB _).out⟩
  · have h0' : decide (i < 0) = false := by rw [decide_eq_false_iff_not]; exact h0
    by_cases h1 : 128 ≤ i
    · rw [bt_no (.inr h1)]
      go_enter Tryd.func54, Tryd.ntmps54
      go_wp2
      go_ret
      exact ⟨rfl, (hB _).out⟩
    · have h1' : decide (127 < i) = false := by rw [decide_eq_false_iff_not]; omega
      by_cases h2 : i < 64
      · obtain ⟨k, rfl⟩ := Int.eq_ofNat_of_zero_le (show 0 ≤ i by omega)
        have e1 : IntKind.u64.wrap (k : Int) = (k : Int) := by rw [IntKind.wrap_u64]; omega
        rw [bt_lo (by omega), ← shr_bit]
        go_enter Tryd.func54, Tryd.ntmps54
        go_wp2
        go_ret
        exact ⟨ret_bool (ret_mod a k), (hB _).out⟩
      · obtain ⟨k, rfl⟩ : ∃ k : Nat, i = ((64 + k : Nat) : Int) := ⟨(i - 64).toNat, by omega⟩
        have hk : k < 64 := by omega
        obtain ⟨m, hm⟩ : ∃ m, m = 64 + k := ⟨_, rfl⟩
        rw [bt_hi hk, ← shr_bit, ← hm]
        have e1 : (m : Int) - 64 = (k : Int) := by omega
        have e3 : IntKind.u64.wrap (k : Int) = (k : Int) := by rw [IntKind.wrap_u64]; omega
        have e4 : decide ((m : Int) < 64) = false := by rw [decide_eq_false_iff_not]; omega
        rw [← hm] at h0 h0' h1 h1' h2
        clear hm
        go_enter Tryd.func54, Tryd.ntmps54
        go_wp2
        go_ret
        exact ⟨ret_bool (ret_mod b k), (hB _).out⟩


def RX (j p : Nat) : Nat := if j < 3 ∧ p = 0 then j + 1 else 0
theorem rx_lt (j p : Nat) : RX j p < 18446744073709551616 := by unfold RX; split <;> omega
def rx3 : Obj := .cells #[.int .u64 1, .int .u64 0, .int .u64 2, .int .u64 0, .int .u64 3, .int .u64 0] 24
theorem rx_at {w : World} {g : Nat} (h : w.heap[g]? = some rx3) : Rws w 3 (some ⟨g, 0, none⟩) RX := by
  refine ⟨fun j hj => ⟨g, 0, rfl, ?_, ?_⟩, rx_lt⟩
  · match j, hj with
    | 0, _ => rw [cell_of_row w g _ _ _ _ h]; rfl
    | 1, _ => rw [cell_of_row w g _ _ _ _ h]; rfl
    | 2, _ => rw [cell_of_row w g _ _ _ _ h]; rfl
  · match j, hj with
    | 0, _ => rw [cell_of_row w g _ _ _ _ h]; rfl
    | 1, _ => rw [cell_of_row w g _ _ _ _ h]; rfl
    | 2, _ => rw [cell_of_row w g _ _ _ _ h]; rfl
theorem ex0 : colB RX 3 0 = [true, false, true] := by decide +kernel
theorem ex1 : colB RX 3 1 = [false, true, true] := by decide +kernel
theorem ex2 : (colB RX 3 2).count true = 0 := by decide +kernel
theorem need31 : need 3 64 = 1 := by decide

end Go.Proofs.YtlkkninnfiaedaaDoor.T

namespace Go.Proofs.YtlkkninnfiaedaaDoor.T
open Go.RowKit
set_option maxRecDepth 100000
attribute [local go_sem] not_any

theorem own_below {base e size n : Nat} {w w' : World} {v : Value} {xs : List Value} (ho : w.ownsRow base e size v n xs) (hb : Below w.heap.size w w') : w'.ownsRow base e size v n xs := by
  refine ⟨ho.1, ?_⟩
  rcases ho.2 with h0 | ⟨g, cap, cur, hv, hg, hh, rest⟩
  · exact .inl h0
  · exact .inr ⟨g, cap, cur, hv, hg, (hb.block g (lt_heap hh)).trans hh, rest⟩
theorem bt_col (R : Nat → Nat → Nat) (j i : Nat) (hi : i < 128) : bt (R j 0) (R j 1) (i : Int) = (R j (i / 64)).testBit (i % 64) := by
  by_cases h : i < 64
  · rw [bt_lo h, show i / 64 = 0 by omega, show i % 64 = i by omega]
  · rw [show i = 64 + (i - 64) by omega, bt_hi (by omega), show (64 + (i - 64)) / 64 = 1 by omega, show (64 + (i - 64)) % 64 = i - 64 by omega]
theorem colB_length (R : Nat → Nat → Nat) (n i : Nat) : (colB R n i).length = n := by simp [colB]
theorem colB_get {R : Nat → Nat → Nat} {n i j : Nat} (h : j < n) : (colB R n i)[j]? = some ((R j (i / 64)).testBit (i % 64)) := by simp [colB, h]

theorem len_gr (k : Nat) (s : Option Addr) (m : Nat) (w : World) : Calls Tryd.prog 17 #[.agg #[.int .i64 k, .slice s m m]] w fun e w' => e = .returned (.int .i64 k) ∧ ∃ q os, w' = Sort.grow (w.drewN q) os := by
  refine (len_any (k : Int) (.slice s m m) w rfl).mono ?_
  rintro e w' ⟨rfl, rfl⟩
  exact ⟨rfl, gr_alloc _ _⟩

/- 128 columns of one length -/
def evn (m : Nat) (n : Nat → Nat) : Bool := decide (m = 128 ∧ ∀ i, i < m → n i = n 0)
set_option maxHeartbeats 2000000 in
theorem even_any (w : World) (m c : Nat) (a : Option Addr) (n : Nat → Nat) (aa : Nat → Option Addr) (L : Nat → List Bool) (hv : Vcs w m a n aa L) (hm : m ≤ 4096) :
    Calls Tryd.prog 65 #[.slice a m c] w fun e w' => e = .returned (.bool (evn m n)) ∧ Below w.heap.size w w' := by
  by_cases h128 : m = 128
  · subst h128
    obtain ⟨g, o, rfl, hgl, hc⟩ := hv.first (by omega)
    have HC := hide1 hc
    have mixed := mixed
    have kL := fun (k : Nat) (s : Option Addr) w => hide1 (len_gr k s (need k 64) w)
    have h0 : ((128 : Int) != 128) = false := by decide
    clear hc hv
    show Calls _ _ #[.slice (some ⟨g, o, none⟩) 128 c] _ _
    go_enter Tryd.func65, Tryd.ntmps65
    go_wp2
    go_loopw [10] (fun iv wr => ∃ i : Nat, i ≤ 128 ∧ iv = .int .i64 i ∧ (∀ j, j < i → n j = n 0) ∧ Below w.heap.size w wr) (fun iv _ => 128 - (intOf iv).toNat)
    case atStart => exact ⟨0, Nat.zero_le _, rfl, fun j hj => by omega, Below.refl _ _⟩
    case round =>
      obtain ⟨i, hi, rfl, hE, hB⟩ := hrel
      have HE := hide1 hE
      have HB := hide1 hB
      clear hE
      by_cases hlt : i < 128
      · have d0 := (hB.cell (p := ⟨g, o + i * 2, none⟩) (by simp; omega)).trans (HC.out i hlt).1
        have d1 := (hB.cell (p := ⟨g, o + i * 2 + 1, none⟩) (by simp; omega)).trans (HC.out i hlt).2
        have e0 : wr.cell? ⟨g, o, none⟩ = _ := (hB.cell (p := ⟨g, o + 0 * 2, none⟩) (by simp; omega)).trans (HC.out 0 (by omega)).1
        have e1 : wr.cell? ⟨g, o + 1, none⟩ = _ := (hB.cell (p := ⟨g, o + 0 * 2 + 1, none⟩) (by simp; omega)).trans (HC.out 0 (by omega)).2
        have hgw : g < wr.heap.size := by have := hB.size; omega
        obtain ⟨x, hx⟩ : ∃ x, x = n i := ⟨_, rfl⟩
        obtain ⟨y, hy⟩ : ∃ y, y = n 0 := ⟨_, rfl⟩
        obtain ⟨ai, hai⟩ : ∃ ai, ai = aa i := ⟨_, rfl⟩
        obtain ⟨az, haz⟩ : ∃ az, az = aa 0 := ⟨_, rfl⟩
        rw [← hx] at d0 d1
        rw [← hy] at e0 e1
        rw [← hai] at d1
        rw [← haz] at e1
        have HX := hide1 hx
        have HY := hide1 hy
        clear hx hy hai haz hB
        obtain ⟨W, hW⟩ : ∃ W, W = wr.alloc (.cells #[.int .i64 x, .slice ai (need x 64) (need x 64)] 41) := ⟨_, rfl⟩
        have BW : Hid (Below w.heap.size w W) := by rw [hW]; exact HB.out.alloc HB.out.size _
        have hbx : W.heap[wr.heap.size]? = some (.cells #[.int .i64 x, .slice ai (need x 64) (need x 64)] 41 (0, 0)) := by rw [hW]; exact heap_alloc_new _ _
        have e0' : W.cell? ⟨g, o, none⟩ = some (.int .i64 y) := by rw [hW, (below_alloc1 wr _).cell (p := ⟨g, o, none⟩) hgw]; exact e0
        have e1' : W.cell? ⟨g, o + 1, none⟩ = some (.slice az (need y 64) (need y 64)) := by rw [hW, (below_alloc1 wr _).cell (p := ⟨g, o + 1, none⟩) hgw]; exact e1
        have k0 := cell_grown (lt_heap hbx) (box2 hbx).1
        have k1 := cell_grown (lt_heap hbx) (box2 hbx).2.1
        have k2 := cell_grown (lt_cell e0') e0'
        have k3 := cell_grown (lt_cell e1') e1'
        have HW := hide1 hW
        go_upto_region 6 with (fail)
        rw [← hW]
        clear hW hbx e0 e1 e0' e1' d0 d1
        by_cases hxy : x = y
        · subst hxy
          have t1 : ((x : Int) != (x : Int)) = false := by simp
          go_quiet_grown (first | (go_at_call 17; exact Calls.grown_of (kL _ _ _).out))
          go_wp2
          go_roundw
          case rel => exact ⟨i + 1, by omega, by go_num, fun j hj => by
            by_cases e : j = i
            · rw [e, ← HX.out]; exact HY.out
            · exact HE.out j (by omega), BW.out.trans ((gr_below ⟨nq, osq, rfl⟩).mono BW.out.size)⟩
          case measure => simp [intOf]; omega
        · have t1 : ((x : Int) != (y : Int)) = true := by rw [bne_iff_ne]; omega
          have HN : Hid (evn 128 n = false) := decide_eq_false (fun h => hxy (by rw [HX.out, HY.out]; exact h.2 i hlt))
          clear hxy
          go_quiet_grown (first | (go_at_call 17; exact Calls.grown_of (kL _ _ _).out))
          go_wp2
          go_ret
          rw [HN.out]
          exact ⟨rfl, BW.out.trans ((gr_below ⟨nq, osq, rfl⟩).mono BW.out.size)⟩
      · obtain rfl : i = 128 := by omega
        have HN : Hid (evn 128 n = true) := decide_eq_true ⟨rfl, HE.out⟩
        go_wp2
        go_ret
        rw [HN.out]
        exact ⟨rfl, HB.out⟩
  · have HN : Hid (evn m n = false) := decide_eq_false (fun h => h128 h.1)
    have t1 : ((m : Int) != 128) = true := by rw [bne_iff_ne]; omega
    have t2 : ¬ (m : Int) = 128 := by omega
    rw [HN.out]
    go_enter Tryd.func65, Tryd.ntmps65
    go_wp2
    go_ret
    exact ⟨rfl, Below.refl _ _⟩
end Go.Proofs.YtlkkninnfiaedaaDoor.T
