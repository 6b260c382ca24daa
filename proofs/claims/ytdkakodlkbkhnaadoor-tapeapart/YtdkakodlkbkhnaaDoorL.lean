/- Bits. -/
import Derived.Test.YtdkakodlkbkhnaaDoorJ
namespace Go.Proofs.YtdkakodlkbkhnaaDoor
open Go.RowKit
set_option maxRecDepth 100000
attribute [local go_sem] not_any mf_any

def bools (l : List Bool) : List Value := l.map Value.bool
def brow (l : List Bool) : Obj := .cells (bools l).toArray 4 (0, 0)
def odd (x : Nat) : Bool := decide (x % 2 = 1)

/- truths in memory, to be read -/
structure Bl (w : World) (m : Nat) (a : Option Addr) (l : List Bool) : Prop where
  len : l.length = m
  at' : ∀ (j : Nat) (x : Bool), l[j]? = some x → ∃ g o, a = some ⟨g, o, none⟩ ∧ w.cell? ⟨g, o + j, none⟩ = some (.bool x)
theorem Bl.nil (w : World) (a : Option Addr) : Bl w 0 a [] := ⟨rfl, fun j x h => by simp at h⟩
theorem bl_row {w : World} {g : Nat} {l : List Bool} (h : w.heap[g]? = some (brow l)) : Bl w l.length (some ⟨g, 0, none⟩) l :=
  ⟨rfl, fun j x hj => ⟨g, 0, rfl, by rw [Nat.zero_add, cell_of_row w g j _ 4 (0, 0) h]; simp [bools, hj]⟩⟩
theorem Bl.next {w w' : World} {m : Nat} {a : Option Addr} {l : List Bool} (h : Bl w m a l) (hB : Below w.heap.size w w') : Bl w' m a l :=
  ⟨h.len, fun j x hj => by
    obtain ⟨g, o, h1, h2⟩ := h.at' j x hj
    exact ⟨g, o, h1, (hB.cell (p := ⟨g, o + j, none⟩) (ltc h2)).trans h2⟩⟩
theorem bset {w : World} {g j : Nat} {x : Bool} {l : List Bool} (h : w.heap[g]? = some (brow l)) : (w.setCell ⟨g, j, none⟩ (.bool x)).heap[g]? = some (brow (l.set j x)) := by
  rw [heap_setCell_same w g j _ 4 _ h]
  unfold brow bools
  congr 2
  simp

theorem info4 : (Tryd.prog.info? 4).map (fun i => (i.zero, i.size, i.bytes)) = some (some (.bool false), 1, 1) := by kernel_rfl
def falses (n : Nat) : List Bool := List.replicate n false
theorem make_bools (m : Nat) (hm : m ≤ 4194304) (w : World) : (Instr.makeSlice 54 (.int .i64 (m : Int)) (.int .i64 (m : Int))).run Tryd.prog w = .ok (.slice (some ⟨w.heap.size, 0, none⟩) m m) (w.alloc (brow (falses m))) := by
  obtain ⟨i0, hi, hz0, hz1, hz2⟩ := info_of info4
  have h := run_make (P := Tryd.prog) w 54 4 i0 _ Tryd.underlying54 hi hz0 .i64 .i64 (m : Int) (m : Int) (by omega) (by omega) (by rw [hz2]; omega) (by omega)
  rw [h, hz1]
  have e : madeCells (Value.bool false).cells ((m : Int).toNat * 1) = (bools (falses m)).toArray := by
    apply Array.ext
    · simp [madeCells, bools, falses]
    · intro j h1 h2
      simp [madeCells, bools, Value.cells, Nat.mod_one, falses]
  rw [e]
  rfl

/- the first i bits told -/
def bitTo (i : Nat) (l : List Nat) : List Bool := (l.take i).map odd ++ falses (l.length - i)
theorem bitTo_zero (l : List Nat) : bitTo 0 l = falses l.length := by simp [bitTo]
theorem bitTo_all (l : List Nat) : bitTo l.length l = l.map odd := by simp [bitTo, falses]
theorem bitTo_step {i : Nat} {l : List Nat} (h : i < l.length) : (bitTo i l).set i (odd (at0 l i)) = bitTo (i + 1) l := by
  have h1 : ((l.take i).map odd).length = i := by simp; omega
  have h2 : falses (l.length - i) = false :: falses (l.length - (i + 1)) := by
    unfold falses
    rw [show l.length - i = (l.length - (i + 1)) + 1 by omega, List.replicate_succ]
  have h3 : l.take (i + 1) = l.take i ++ [at0 l i] := by
    rw [List.take_add_one, get_at0 h]
    rfl
  unfold bitTo
  rw [List.set_append_right _ _ (by omega), h1, Nat.sub_self, h2, List.set_cons_zero, h3, List.map_append, List.append_assoc]
  rfl
theorem low_bit {x : Nat} (hx : x < 18446744073709551616) : (bits .and .u64 (x : Int) 1 == 1) = odd x := by
  rw [show (1 : Int) = ((1 : Nat) : Int) from rfl, u64_and_nat _ _ hx (by omega), Nat.and_one_is_mod, odd]
  by_cases h : x % 2 = 1
  · rw [h, decide_eq_true rfl]; rfl
  · have : x % 2 = 0 := by omega
    rw [this]; rfl

def BitPost (w : World) (t b k : Nat) (n : Int) (ws : List Nat) (e : Ending) (w' : World) : Prop :=
  ∃ a m c v, e = .returned (.tuple #[.slice a m c, v]) ∧ Bl w' m a ((takeL n k ws).map odd) ∧ IsE w' (takeC n k ws.length) v ∧ Tp w' t b (takeK n k ws.length) ws.length ∧ Kp (fun j _ => j = t) w w'

set_option maxHeartbeats 4000000 in
theorem bits_any (t b k : Nat) (n : Int) (ws : List Nat) (w : World) (ht : Tp w t b k ws.length) (hr : w.heap[b]? = some (wrow ws)) (hs : Small ws) (hL : ws.length ≤ 1048576) :
    Calls Tryd.prog 16 #[.pointer (some ⟨t, 0, none⟩), .int .i64 n] w (BitPost w t b k n ws) := by
  have HK := hide1 (take_any t b k n ws w ht hr hL)
  have HSm := hide1 (small_take hs n k)
  have htl := ht.lt
  have HLen : Shy ((takeL n k ws).length ≤ 1048576) := ⟨Nat.le_trans (takeL_len n k ws) hL⟩
  by_cases h0 : takeC n k ws.length = 0
  · have H0 : Shy (takeC n k ws.length = 0) := ⟨h0⟩
    clear ht hr hs hL h0
    go_enter Tryd.func16, Tryd.ntmps16
    go_wp2_with fail
    refine HK.out.mono ?_
    rintro e w1 ⟨a, m, c, v, rfl, h3, h4, h5, h6⟩
    rcases h4 with ⟨_, rfl⟩ | ⟨h4, _⟩
    rotate_left
    · rw [H0.out] at h4; simp at h4
    obtain ⟨l, hl⟩ : ∃ l, takeL n k ws = l := ⟨_, rfl⟩
    rw [hl] at h3 HSm HLen
    have HLd : Shy (takeL n k ws = l) := ⟨hl⟩
    clear hl
    have hlm := h3.len
    have HLm : Shy (m ≤ 1048576) := ⟨by have := HLen.out; omega⟩
    have hmk := make_bools m (by have := HLm.out; omega)
    have H := hide1 (And.intro h5 h6)
    have H3 := hide1 h3
    have Hsz : Shy (l.length = m) := ⟨hlm⟩
    have Hlt : Hid (w.heap.size ≤ w1.heap.size) := h6.size
    clear h3 h5 h6 hlm HK
    go_wp2
    generalize hX : World.alloc w1 _ = X
    have x1 : X.heap[w1.heap.size]? = some (brow (falses m)) := by rw [← hX]; exact World.alloc_heap_new w1 _
    have xb : Below w1.heap.size w1 X := by rw [← hX]; exact (Below.refl _ _).alloc (Nat.le_refl _) _
    have X1 := hide1 x1
    have XB := hide1 xb
    obtain ⟨g, hg⟩ : ∃ v, v = w1.heap.size := ⟨_, rfl⟩
    rw [← hg] at X1 ⊢
    have Hg : Shy (g = w1.heap.size) := ⟨hg⟩
    clear hX x1 xb hg
    go_loopw [25] (fun i wr => ∃ j : Nat, j ≤ m ∧ i = .int .i64 (j : Int) ∧ wr.heap[g]? = some (brow (bitTo j l)) ∧ Below w1.heap.size w1 wr) (fun i _ => m - (intOf i).toNat)
    case atStart => exact ⟨0, Nat.zero_le _, rfl, by rw [bitTo_zero, Hsz.out]; exact X1.out, XB.out⟩
    case round =>
      obtain ⟨j, hj, rfl, hrow, hbe⟩ := hrel
      have hmi := HLm.out
      by_cases hlt : j < m
      · obtain ⟨ga, rfl, _, hc, hf⟩ := (H3.out.next hbe).get hlt
        have HST : Shy ((bitTo j l).set j (odd (at0 l j)) = bitTo (j + 1) l) := ⟨bitTo_step (by rw [Hsz.out]; exact hlt)⟩
        have hlow := low_bit (HSm.out.at0 j)
        generalize at0 l j = x at *
        have hlen : (bitTo j l).length = m := by unfold bitTo; simp [falses, Hsz.out]; have := Hsz.out; omega
        have hbc : wr.cell? ⟨g, j, none⟩ = some (.bool ((bitTo j l)[j]'(by omega))) := by
          rw [cell_of_row wr g j _ 4 (0, 0) hrow]
          simp [bools, hlen, hlt]
        have hbf : wr.frozen? ⟨g, j, none⟩ = false := frozen_of_row wr g j _ 4 hrow
        generalize (bitTo j l)[j]'(by omega) = ob at hbc
        have HR := hide1 hrow
        have HE := hide1 hbe
        clear hrow hbe hlen
        go_wp2
        go_roundw
        case rel => exact ⟨j + 1, by omega, by go_num, by rw [← HST.out]; exact bset HR.out, HE.out.setCell (by show _ ≤ g; rw [Hg.out]; exact Nat.le_refl _) _⟩
        case measure => simp [intOf]; omega
      · have : j = m := by omega
        subst this
        have HR := hide1 hrow
        have HE := hide1 hbe
        clear hrow hbe
        go_wp2
        go_ret2
        refine ⟨_, j, j, _, rfl, ?_, by rw [H0.out]; exact IsE.nil _, H.out.1.below HE.out (Nat.lt_of_lt_of_le htl Hlt.out), H.out.2.thenB (HE.out.mono Hlt.out)⟩
        rw [HLd.out]
        have e := bl_row HR.out
        rw [show bitTo j l = l.map odd by rw [← bitTo_all, Hsz.out], List.length_map, Hsz.out] at e
        exact e
  · have h0' : (takeC n k ws.length == 0) = false := by simpa using h0
    have HE := hide1 (takeC_ne h0 ws rfl)
    have H0 := hide1 h0'
    clear ht hr hs hL h0
    go_enter Tryd.func16, Tryd.ntmps16
    go_wp2_with fail
    refine HK.out.mono ?_
    rintro e w1 ⟨a, m, c, v, rfl, h3, h4, h5, h6⟩
    rcases h4 with ⟨h4, _⟩ | ⟨_, be, rfl, hrt⟩
    · rw [h4] at h0'; simp at h0'
    have H := hide1 (And.intro hrt (And.intro h5 h6))
    clear h3 h5 h6 hrt h0'
    go_wp2
    go_ret2
    refine ⟨none, 0, 0, _, rfl, ?_, ?_, ?_, H.out.2.2⟩
    · rw [HE.out.1]; exact Bl.nil _ _
    · exact .inr ⟨H0.out, _, rfl, H.out.1⟩
    · exact H.out.2.1

set_option maxHeartbeats 1000000 in
theorem bits_none (x : Value) (n : Int) (w : World) (h : No w x) :
    Calls Tryd.prog 16 #[x, .int .i64 n] w (TakeNo w 3) := by
  have HK := hide1 (take_none x n w h)
  clear h
  go_enter Tryd.func16, Tryd.ntmps16
  go_wp2_with fail
  refine HK.out.mono ?_
  rintro e w1 ⟨rfl, h3, h4⟩
  have H := hide1 (And.intro h3 h4)
  clear h3 h4
  go_wp2
  go_ret2
  exact ⟨rfl, H.out.1, H.out.2⟩

end Go.Proofs.YtdkakodlkbkhnaaDoor
