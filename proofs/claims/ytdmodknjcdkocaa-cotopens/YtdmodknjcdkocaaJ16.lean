/- Bits of truths: Of. Bits made word by word, and what is behind the last one cleared. -/
import Derived.Test.YtdmodknjcdkocaaJ15
import Derived.Deep.RegionHeld3
namespace Go.Proofs.Ytdmodknjcdkocaa.Pg.V
open Go.RowKit
set_option maxRecDepth 100000
attribute [local go_sem] not_any mf_any

/- truths in memory -/
structure Bl (w : World) (n : Nat) (a : Option Addr) (l : List Bool) : Prop where
  len : l.length = n
  at' : ∀ (j : Nat) (x : Bool), l[j]? = some x → ∃ g o, a = some ⟨g, o, none⟩ ∧ w.cell? ⟨g, o + j, none⟩ = some (.bool x)

theorem lt_cell {w : World} {b o : Nat} {v : Value} (h : w.cell? ⟨b, o, none⟩ = some v) : b < w.heap.size := block_lt_of_cell h

theorem Bl.below {B : Nat} {w w' : World} {n : Nat} {a : Option Addr} {l : List Bool} (h : Bl w n a l) (hB : Below B w w') (hs : w.heap.size ≤ B) : Bl w' n a l :=
  ⟨h.len, fun j x hj => by
    obtain ⟨g, o, h1, h2⟩ := h.at' j x hj
    exact ⟨g, o, h1, (hB.cell (p := ⟨g, o + j, none⟩) (by have := lt_cell h2; simp; omega)).trans h2⟩⟩

theorem wrow_set (ws : List Nat) (j x : Nat) : Obj.cells ((u64s ws).toArray.setIfInBounds j (.int .u64 (x : Int))) 49 (0, 0) = wrow (ws.set j x) := by
  unfold wrow u64s
  congr 1
  simp

theorem wset {w : World} {g j x : Nat} {ws : List Nat} (h : w.heap[g]? = some (wrow ws)) : (w.setCell ⟨g, j, none⟩ (.int .u64 (x : Int))).heap[g]? = some (wrow (ws.set j x)) := by
  rw [heap_setCell_same w g j _ 49 _ h, wrow_set]

theorem bool_ext {l l' : List Bool} (h : l.length = l'.length) (h' : ∀ j, j < l.length → l.getD j false = l'.getD j false) : l = l' := by
  apply List.ext_getElem h
  intro j h1 h2
  have := h' j h1
  rw [List.getD_eq_getElem?_getD, List.getD_eq_getElem?_getD, List.getElem?_eq_getElem h1, List.getElem?_eq_getElem h2] at this
  exact this

theorem getD_of {l : List Bool} {k : Nat} {b : Bool} (h : l[k]? = some b) : l.getD k false = b := by rw [List.getD_eq_getElem?_getD, h]; rfl

/- the first k as they are, the others 0 -/
def firsts (l : List Bool) (k : Nat) : List Bool := (List.range l.length).map (fun j => decide (j < k) && l.getD j false)

theorem firsts_length (l : List Bool) (k : Nat) : (firsts l k).length = l.length := by simp [firsts]

theorem firsts_getD (l : List Bool) (k j : Nat) : (firsts l k).getD j false = (decide (j < k) && l.getD j false) := by
  rw [List.getD_eq_getElem?_getD]
  unfold firsts
  rw [List.getElem?_map]
  by_cases h : j < l.length
  · rw [List.getElem?_range h]
    rfl
  · rw [List.getElem?_eq_none (by simp; omega), List.getD_eq_getElem?_getD, List.getElem?_eq_none (by omega)]
    simp

theorem firsts_zero (l : List Bool) : firsts l 0 = List.replicate l.length false := by
  apply bool_ext
  · simp [firsts]
  · intro j hj
    rw [firsts_getD]
    simp [List.getD_eq_getElem?_getD, List.getElem?_replicate]
    split <;> rfl

theorem firsts_all {l : List Bool} {k : Nat} (h : l.length ≤ k) : firsts l k = l := by
  apply bool_ext (firsts_length _ _)
  intro j hj
  rw [firsts_length] at hj
  rw [firsts_getD]
  have : j < k := by omega
  simp [this]

theorem firsts_succ {l : List Bool} {k : Nat} {b : Bool} (h : l[k]? = some b) : firsts l (k + 1) = (firsts l k).set k b := by
  have hk : k < l.length := (List.getElem?_eq_some_iff.1 h).1
  apply bool_ext (by simp [firsts_length])
  intro j hj
  rw [getD_set _ _ _ _ (by rw [firsts_length]; exact hk), firsts_getD, firsts_getD]
  by_cases h1 : j = k
  · subst h1
    rw [if_pos rfl, getD_of h]
    simp
  · rw [if_neg h1]
    have : (j < k + 1) ↔ j < k := by omega
    simp [this]

theorem firsts_false {l : List Bool} {k : Nat} (h : l[k]? = some false) : firsts l (k + 1) = firsts l k := by
  apply bool_ext (by simp [firsts_length])
  intro j hj
  rw [firsts_getD, firsts_getD]
  by_cases h1 : j = k
  · subst h1
    rw [getD_of h]
    simp
  · have : (j < k + 1) ↔ j < k := by omega
    simp [this]

theorem Vc.set {b : Nat} {w : World} {n g k x : Nat} {l : List Bool} (h : Vc b w n (some ⟨g, 0, none⟩) l) (l' : List Bool) (hl : l'.length = n) (hx : chunks 64 l' = (chunks 64 l).set k x) : Vc b (w.setCell ⟨g, k, none⟩ (.int .u64 (x : Int))) n (some ⟨g, 0, none⟩) l' := by
  obtain ⟨_, h | ⟨g', h1, h2, h3⟩⟩ := h
  · cases h.2
  · cases h1
    refine ⟨hl, .inr ⟨g, rfl, h2, ?_⟩⟩
    rw [hx]
    exact wset h3

theorem Vc.drew {b : Nat} {w : World} {n : Nat} {a : Option Addr} {l : List Bool} (h : Vc b w n a l) : Vc b w.drew n a l := ⟨h.len, h.at'⟩
theorem Vc.drewN {b : Nat} {w : World} {n : Nat} {a : Option Addr} {l : List Bool} (h : Vc b w n a l) (k : Nat) : Vc b (w.drewN k) n a l := ⟨h.len, h.at'⟩

/- the block that a slice lies in -/
def blk (a : Option Addr) : Option Nat := a.map (·.block)

theorem Vc.blk {b : Nat} {w : World} {n : Nat} {a : Option Addr} {l : List Bool} (h : Vc b w n a l) : ∀ k, blk a = some k → b ≤ k ∧ k < w.heap.size := by
  intro k hk
  obtain ⟨_, h | ⟨g, h1, h2, h3⟩⟩ := h
  · rw [h.2] at hk; cases hk
  · rw [h1] at hk
    cases hk
    exact ⟨h2, lt_heap h3⟩

theorem or_pow {x j : Nat} (hx : x < 18446744073709551616) (hj : j < 64) : bits .or .u64 (x : Int) (2 ^ j) = ((x ||| 2 ^ j : Nat) : Int) := by
  rw [pow_cast, u64_or_nat _ _ hx (pow_lt hj)]

end Go.Proofs.Ytdmodknjcdkocaa.Pg.V

namespace Go.Proofs.Ytdmodknjcdkocaa.Pg.V
open Go.RowKit
set_option maxRecDepth 100000
attribute [local go_sem] not_any mf_any

theorem mask_and {x j : Nat} (hx : x < 18446744073709551616) (hj : j < 64) : bits .and .u64 (x : Int) (2 ^ j - 1) = ((x &&& (2 ^ j - 1) : Nat) : Int) := by
  have h1 := pow_lt hj
  have h2 := Nat.two_pow_pos j
  rw [show ((2 : Int) ^ j - 1) = ((2 ^ j - 1 : Nat) : Int) by rw [pow_cast]; omega, u64_and_nat _ _ hx (by omega)]

/- words in a block from b on: any, not yet cleared behind the last bit -/
structure Wr (b : Nat) (w : World) (n : Nat) (a : Option Addr) (ws : List Nat) : Prop where
  len : ws.length = need n 64
  lt : ∀ (k : Nat) (x : Nat), ws[k]? = some x → x < 18446744073709551616
  at' : (n = 0 ∧ a = none) ∨ ∃ g, a = some ⟨g, 0, none⟩ ∧ b ≤ g ∧ w.heap[g]? = some (wrow ws)

theorem Vc.wr {b : Nat} {w : World} {n : Nat} {a : Option Addr} {l : List Bool} (h : Vc b w n a l) : Wr b w n a (chunks 64 l) :=
  ⟨by rw [chunks_length, h.len], fun k x hx => by rw [(chunks_get' hx).2]; exact chunk64_lt _ _, h.at'⟩

theorem Wr.vc {b : Nat} {w : World} {n : Nat} {a : Option Addr} {l : List Bool} (h : Wr b w n a (chunks 64 l)) (hl : l.length = n) : Vc b w n a l := ⟨hl, h.at'⟩

theorem Wr.block {b : Nat} {w : World} {n j : Nat} {a : Option Addr} {ws : List Nat} (h : Wr b w n a ws) (hj : j < need n 64) : ∃ g, a = some ⟨g, 0, none⟩ ∧ b ≤ g ∧ w.heap[g]? = some (wrow ws) := by
  obtain ⟨_, _, h | h⟩ := h
  · obtain ⟨rfl, _⟩ := h
    simp [need64] at hj
  · exact h

theorem Wr.kept {b : Nat} {w w' : World} {n : Nat} {a : Option Addr} {ws : List Nat} (h : Wr b w n a ws) (hk : ∀ g, a = some ⟨g, 0, none⟩ → w'.heap[g]? = w.heap[g]?) : Wr b w' n a ws := by
  obtain ⟨h1, h2, h | ⟨g, h3, h4, h5⟩⟩ := h
  · exact ⟨h1, h2, .inl h⟩
  · exact ⟨h1, h2, .inr ⟨g, h3, h4, (hk g h3).trans h5⟩⟩

theorem Vc.kept {b : Nat} {w w' : World} {n : Nat} {a : Option Addr} {l : List Bool} (h : Vc b w n a l) (hk : ∀ g, a = some ⟨g, 0, none⟩ → w'.heap[g]? = w.heap[g]?) : Vc b w' n a l := by
  obtain ⟨h1, h | ⟨g, h3, h4, h5⟩⟩ := h
  · exact ⟨h1, .inl h⟩
  · exact ⟨h1, .inr ⟨g, h3, h4, (hk g h3).trans h5⟩⟩

theorem Wr.below {b B : Nat} {w w' : World} {n : Nat} {a : Option Addr} {ws : List Nat} (h : Wr b w n a ws) (hB : Below B w w') (hs : w.heap.size ≤ B) : Wr b w' n a ws := by
  obtain ⟨h1, h2, h | ⟨g, h3, h4, h5⟩⟩ := h
  · exact ⟨h1, h2, .inl h⟩
  · exact ⟨h1, h2, .inr ⟨g, h3, h4, (hB.block g (by have := lt_heap h5; omega)).trans h5⟩⟩

theorem Wr.alloc {b : Nat} {w : World} {n : Nat} {a : Option Addr} {ws : List Nat} (h : Wr b w n a ws) (o : Obj) : Wr b (w.alloc o) n a ws :=
  h.below (B := w.heap.size) ((Below.refl _ _).alloc (Nat.le_refl _) _) (Nat.le_refl _)

theorem Wr.blk {b : Nat} {w : World} {n : Nat} {a : Option Addr} {ws : List Nat} (h : Wr b w n a ws) : ∀ k, blk a = some k → b ≤ k ∧ k < w.heap.size := by
  intro k hk
  obtain ⟨_, _, h | ⟨g, h1, h2, h3⟩⟩ := h
  · rw [h.2] at hk; cases hk
  · rw [h1] at hk
    cases hk
    exact ⟨h2, lt_heap h3⟩

theorem Wr.set {b : Nat} {w : World} {n g k x : Nat} {ws : List Nat} (h : Wr b w n (some ⟨g, 0, none⟩) ws) (hx : x < 18446744073709551616) : Wr b (w.setCell ⟨g, k, none⟩ (.int .u64 (x : Int))) n (some ⟨g, 0, none⟩) (ws.set k x) := by
  obtain ⟨h1, h2, h | ⟨g', h3, h4, h5⟩⟩ := h
  · cases h.2
  · cases h3
    refine ⟨by simpa using h1, fun j y hy => ?_, .inr ⟨g, rfl, h4, wset h5⟩⟩
    rw [List.getElem?_set] at hy
    split at hy
    · split at hy
      · cases hy; exact hx
      · cases hy
    · exact h2 j y hy

set_option maxHeartbeats 1000000 in
theorem trim_any (b : Nat) (w : World) (n : Nat) (a : Option Addr) (ws : List Nat) (hn : n ≤ 4194304) (hw : Wr b w n a ws) :
    Calls Try.prog 48 #[.agg #[.int .i64 n, .slice a (need n 64) (need n 64)]] w fun e w' => e = .returned (.tuple #[]) ∧ Wr b w' n a (trimmed n ws) ∧ w.grownBy w' (blk a) := by
  by_cases h0 : 0 < n % 64
  · have hm : need n 64 - 1 < need n 64 := by rw [need64]; omega
    obtain ⟨g, rfl, hbg, hg⟩ := hw.block hm
    obtain ⟨hl, hb, _⟩ := hw
    obtain ⟨x, hx⟩ : ∃ x, ws[need n 64 - 1]? = some x := ⟨_, List.getElem?_eq_getElem (by omega)⟩
    have hc := row_cell hg hx
    have hfz := frozen_of_row w g (need n 64 - 1) _ _ hg
    have hgl := lt_heap hg
    have hxl := hb _ _ hx
    have h1 : (0 : Int) < (n : Int) % 64 := by omega
    have HT : Hid (trimmed n ws = ws.set (need n 64 - 1) (x &&& (2 ^ (n % 64) - 1))) := by
      unfold Hid trimmed
      rw [if_pos h0, hl, List.getD_eq_getElem?_getD, hx]
      rfl
    have HG := hide1 hg
    have hk0 : (0 : Int) ≤ (need n 64 : Int) - 1 := by omega
    have hk1 : (need n 64 : Int) - 1 < (need n 64 : Int) := by omega
    have hk2 : ((need n 64 : Int) - 1).toNat = need n 64 - 1 := by omega
    have hmm : need n 64 ≤ 65536 := by rw [need64]; omega
    have hkw : IntKind.i64.wrap ((need n 64 : Int) - 1) = (need n 64 : Int) - 1 := by rw [IntKind.wrap_i64]; omega
    have hpw : IntKind.u64.wrap (2 ^ (n % 64)) = 2 ^ (n % 64) := by rw [wrap_pow (Nat.mod_lt _ (by omega))]; simp
    have hpw2 : IntKind.u64.wrap (2 ^ (n % 64) - 1) = 2 ^ (n % 64) - 1 := by
      have h1 := pow_lt (Nat.mod_lt n (show 64 > 0 by omega))
      have h2 := Nat.two_pow_pos (n % 64)
      rw [pow_cast, IntKind.wrap_u64]
      omega
    have hl' := hl
    have hb' := hide1 hb
    clear hg hx hl hb
    go_enter Try.func48, Try.ntmps48
    go_wp2
    go_region
    rw [mask_and hxl (Nat.mod_lt _ (by omega))]
    go_end0
    refine ⟨rfl, ?_, ?_⟩
    · rw [HT.out]
      refine Wr.kept (w := w.setCell ⟨g, need n 64 - 1, none⟩ (.int .u64 ((x &&& (2 ^ (n % 64) - 1) : Nat) : Int))) (Wr.set ⟨hl', hb'.out, .inr ⟨g, rfl, hbg, HG.out⟩⟩ (Nat.lt_of_le_of_lt Nat.and_le_left hxl)) ?_
      intro g' hg'
      cases hg'
      exact Below.heap_alloc _ _ _ (by simp; exact hgl)
    · refine ⟨rfl, rfl, rfl, by simp, fun k hk hne => ?_⟩
      exact (Below.heap_alloc _ _ _ (by simp; exact hk)).trans (Below.heap_setCell _ _ _ _ (fun e => hne (by simp [Ytdmodknjcdkocaa.Pg.V.blk, e])))
  · have h1 : ¬ (0 : Int) < (n : Int) % 64 := by omega
    go_enter Try.func48, Try.ntmps48
    go_wp2
    go_end0
    refine ⟨rfl, ?_, World.grownBy_alloc _ _ _⟩
    rw [trimmed, if_neg h0]
    exact hw.alloc _

end Go.Proofs.Ytdmodknjcdkocaa.Pg.V
