/- Bits of truths: Of. -/
import Derived.Test.YtgcbdjmlhjbacaaJ11
import Derived.Deep.RegionHeld3
namespace Go.Proofs.Ytgcbdjmlhjbacaa.T
open Go.RowKit
set_option maxRecDepth 100000
attribute [local go_sem] not_any mf_any

/- truths in memory -/
structure Bl (w : World) (n : Nat) (a : Option Addr) (l : List Bool) : Prop where
  len : l.length = n
  at' : ∀ (j : Nat) (x : Bool), l[j]? = some x → ∃ g o, a = some ⟨g, o, none⟩ ∧ w.cell? ⟨g, o + j, none⟩ = some (.bool x)

theorem lt_cell {w : World} {b o : Nat} {v : Value} (h : w.cell? ⟨b, o, none⟩ = some v) : b < w.heap.size := block_lt_of_cell h

theorem Bl.below {B : Nat} {w w' : World} {n : Nat} {a : Option Addr} {l : List Bool} (h : Bl w n a l) (hB : Below B w w') (hs : w.heap.size ≤ B) : Bl w' n a l :=
  ⟨h.len, fun j x hj => by
    obtain ⟨g, o, h1, h2⟩ := h.at' j x hj
    exact ⟨g, o, h1, (hB.cell (p := ⟨g, o + j, none⟩) (by have := lt_cell h2; simp; omega)).trans h2⟩⟩

theorem wrow_set (ws : List Nat) (j x : Nat) : Obj.cells ((u64s ws).toArray.setIfInBounds j (.int .u64 (x : Int))) 44 (0, 0) = wrow (ws.set j x) := by
  unfold wrow u64s
  congr 1
  simp

theorem wset {w : World} {g j x : Nat} {ws : List Nat} (h : w.heap[g]? = some (wrow ws)) : (w.setCell ⟨g, j, none⟩ (.int .u64 (x : Int))).heap[g]? = some (wrow (ws.set j x)) := by
  rw [heap_setCell_same w g j _ 44 _ h, wrow_set]

theorem bool_ext {l l' : List Bool} (h : l.length = l'.length) (h' : ∀ j, j < l.length → l.getD j false = l'.getD j false) : l = l' := by
  apply List.ext_getElem h
  intro j h1 h2
  have := h' j h1
  rw [List.getD_eq_getElem?_getD, List.getD_eq_getElem?_getD, List.getElem?_eq_getElem h1, List.getElem?_eq_getElem h2] at this
  exact this

theorem getD_of {l : List Bool} {k : Nat} {b : Bool} (h : l[k]? = some b) : l.getD k false = b := by rw [List.getD_eq_getElem?_getD, h]; rfl

/- the first k as they are, the others 0 -/
def firsts (l : List Bool) (k : Nat) : List Bool := (List.range l.length).map (fun j => decide (j < k) && l.getD j false)

theorem firsts_length (l : List Bool) (k : Nat) : (firsts l k).length = l.length := by simp [firsts]

theorem firsts_getD (l : List Bool) (k j : Nat) : (firsts l k).getD j false = (decide (j < k) && l.getD j false) := by
  rw [List.getD_eq_getElem?_getD]
  unfold firsts
  rw [List.getElem?_map]
  by_cases h : j < l.length
  · rw [List.getElem?_range h]
    rfl
  · rw [List.getElem?_eq_none (by simp; omega), List.getD_eq_getElem?_getD, List.getElem?_eq_none (by omega)]
    simp

theorem firsts_zero (l : List Bool) : firsts l 0 = List.replicate l.length false := by
  apply bool_ext
  · simp [firsts]
  · intro j hj
    rw [firsts_getD]
    simp [List.getD_eq_getElem?_getD, List.getElem?_replicate]
    split <;> rfl

theorem firsts_all {l : List Bool} {k : Nat} (h : l.length ≤ k) : firsts l k = l := by
  apply bool_ext (firsts_length _ _)
  intro j hj
  rw [firsts_length] at hj
  rw [firsts_getD]
  have : j < k := by omega
  simp [this]

theorem firsts_succ {l : List Bool} {k : Nat} {b : Bool} (h : l[k]? = some b) : firsts l (k + 1) = (firsts l k).set k b := by
  have hk : k < l.length := (List.getElem?_eq_some_iff.1 h).1
  apply bool_ext (by simp [firsts_length])
  intro j hj
  rw [getD_set _ _ _ _ (by rw [firsts_length]; exact hk), firsts_getD, firsts_getD]
  by_cases h1 : j = k
  · subst h1
    rw [if_pos rfl, getD_of h]
    simp
  · rw [if_neg h1]
    have : (j < k + 1) ↔ j < k := by omega
    simp [this]

theorem firsts_false {l : List Bool} {k : Nat} (h : l[k]? = some false) : firsts l (k + 1) = firsts l k := by
  apply bool_ext (by simp [firsts_length])
  intro j hj
  rw [firsts_getD, firsts_getD]
  by_cases h1 : j = k
  · subst h1
    rw [getD_of h]
    simp
  · have : (j < k + 1) ↔ j < k := by omega
    simp [this]

theorem Vc.set {b : Nat} {w : World} {n g k x : Nat} {l : List Bool} (h : Vc b w n (some ⟨g, 0, none⟩) l) (l' : List Bool) (hl : l'.length = n) (hx : chunks 64 l' = (chunks 64 l).set k x) : Vc b (w.setCell ⟨g, k, none⟩ (.int .u64 (x : Int))) n (some ⟨g, 0, none⟩) l' := by
  obtain ⟨_, h | ⟨g', h1, h2, h3⟩⟩ := h
  · cases h.2
  · cases h1
    refine ⟨hl, .inr ⟨g, rfl, h2, ?_⟩⟩
    rw [hx]
    exact wset h3

theorem Vc.drew {b : Nat} {w : World} {n : Nat} {a : Option Addr} {l : List Bool} (h : Vc b w n a l) : Vc b w.drew n a l := ⟨h.len, h.at'⟩
theorem Vc.drewN {b : Nat} {w : World} {n : Nat} {a : Option Addr} {l : List Bool} (h : Vc b w n a l) (k : Nat) : Vc b (w.drewN k) n a l := ⟨h.len, h.at'⟩

/- the block that a slice lies in -/
def blk (a : Option Addr) : Option Nat := a.map (·.block)

theorem Vc.blk {b : Nat} {w : World} {n : Nat} {a : Option Addr} {l : List Bool} (h : Vc b w n a l) : ∀ k, blk a = some k → b ≤ k ∧ k < w.heap.size := by
  intro k hk
  obtain ⟨_, h | ⟨g, h1, h2, h3⟩⟩ := h
  · rw [h.2] at hk; cases hk
  · rw [h1] at hk
    cases hk
    exact ⟨h2, lt_heap h3⟩

theorem or_pow {x j : Nat} (hx : x < 18446744073709551616) (hj : j < 64) : bits .or .u64 (x : Int) (2 ^ j) = ((x ||| 2 ^ j : Nat) : Int) := by
  rw [pow_cast, u64_or_nat _ _ hx (pow_lt hj)]

set_option maxHeartbeats 2000000 in
theorem of_any (w : World) (n cap : Nat) (a : Option Addr) (l : List Bool) (hl : Bl w n a l) (hn : n ≤ 4194304) :
    Calls Try.prog 28 #[.slice a n cap] w fun e w' => ∃ av, e = .returned (.tuple #[.agg #[.int .i64 n, .slice av (need n 64) (need n 64)], .int .i64 0]) ∧ Vc w.heap.size w' n av l ∧ Below w.heap.size w w' := by
  have hN := fun w => hide1 (new_any n w hn)
  have HL := hide1 hl
  have hS := fun k w h => hide1 (single_any k w h)
  clear hl
  go_enter Try.func28, Try.ntmps28
  go_wp2_with (first | (go_at_call 26; refine (hN _).out.mono ?_; rintro e w1 ⟨av, rfl, hv, hb⟩))
  have hbx := after_alloc hb
  have l0 := lt_heap hbx
  have HG : Hid (∀ g, av = some ⟨g, 0, none⟩ → w.heap.size < g ∧ g < w1.heap.size) := by
    intro g hg
    obtain ⟨_, h | ⟨g', h1, h2, h3⟩⟩ := hv
    · rw [h.2] at hg; cases hg
    · rw [h1] at hg
      cases hg
      exact ⟨by simp at h2; omega, lt_heap h3⟩
  go_loopw [20] (fun i wr => ∃ k : Nat, k ≤ n ∧ i = .int .i64 k ∧ Vc (w.heap.size + 1) wr n av (firsts l k) ∧ wr.heap[w.heap.size]? = some (.cells #[.int .i64 0, .slice none 0 0] 25 (0, 0)) ∧
      wr.heap[w1.heap.size]? = some (.cells #[.int .i64 n, .slice av (need n 64) (need n 64)] 25 (0, 0)) ∧ Below w.heap.size w wr) (fun i _ => n - (intOf i).toNat)
  case atStart =>
    refine ⟨0, Nat.zero_le _, rfl, ?_, (Below.heap_alloc _ _ _ l0).trans hbx, heap_alloc_new _ _, (below_after hb).alloc (by omega) _⟩
    rw [firsts_zero, HL.out.len]
    simpa using hv.alloc _
  case round =>
    obtain ⟨k, hk, rfl, hV, hs, ht, hB⟩ := hrel
    by_cases hlt : k < n
    · obtain ⟨x, hx⟩ : ∃ x, l[k]? = some x := ⟨_, List.getElem?_eq_getElem (by rw [HL.out.len]; exact hlt)⟩
      obtain ⟨gl, o, rfl, hcl⟩ := (HL.out.below hB (Nat.le_refl _)).at' k x hx
      cases x with
      | false =>
        have HF := hide1 (firsts_false hx)
        have HV := hide1 hV
        have HS := hide1 hs
        have HT := hide1 ht
        clear hx hV hs ht
        go_wp2
        go_roundw
        case rel => exact ⟨k + 1, by omega, by go_num, by rw [HF.out]; exact HV.out, HS.out, HT.out, hB⟩
        case measure => simp [intOf]; omega
      | true =>
        have HF := hide1 (firsts_succ hx)
        have hkd : k / 64 < need n 64 := by rw [need64]; omega
        obtain ⟨g, rfl, hbg, hg, hc⟩ := hV.cell hkd
        have hgg := HG.out g rfl
        have hfz : wr.frozen? ⟨g, k / 64, none⟩ = false := frozen_of_row wr g _ _ _ hg
        obtain ⟨d0, d1, _, _, ltt⟩ := box2 ht
        have hk0 : (0 : Int) ≤ (k : Int) / 64 := by omega
        have hk1 : (k : Int) / 64 < (need n 64 : Int) := by omega
        have hk2 : ((k : Int) / 64).toNat = k / 64 := by omega
        have hkw : IntKind.i64.wrap ((k : Int) / 64) = (k : Int) / 64 := by rw [IntKind.wrap_i64]; omega
        have HV := hide1 hV
        have HS := hide1 hs
        have HT := hide1 ht
        have hSk := fun w => hS k w (by omega)
        clear hx hV hs ht hg hS
        go_wp2
        go_region_with (first | (go_at_call 36; refine (hSk _).out.mono ?_; rintro e w' ⟨rfl, rfl⟩))
        all_goals
          go_wp2
          go_roundw
          case rel =>
            rw [or_pow (chunk64_lt _ _) (Nat.mod_lt _ (by omega))]
            refine ⟨k + 1, by omega, by go_num, ?_, ?_, ?_, ?_⟩
            · refine (HV.out.set (firsts l (k + 1)) (by rw [firsts_length]; exact HL.out.len) ?_).drew
              rw [HF.out]
              exact chunks_set_true (by omega) _ _ (by rw [firsts_length, HL.out.len]; exact hlt)
            · exact (Below.heap_setCell _ _ _ _ (by simp; omega)).trans HS.out
            · exact (Below.heap_setCell _ _ _ _ (by simp; omega)).trans HT.out
            · exact (hB.setCell (by simp; omega) _).drew
          case measure => simp [intOf]; omega
    · have : k = n := by omega
      subst this
      obtain ⟨d0, d1, _, _, ltt⟩ := box2 ht
      obtain ⟨e0, e1, e2, e3, lts⟩ := box2 hs
      have HV := hide1 hV
      have HS := hide1 hs
      clear hV hs
      go_wp2
      refine ret_vec2 Try.results28 w.heap.size _ _ _ rfl rfl (set_box2 HS.out) rfl ⟨_, rfl, ?_, ?_⟩
      · rw [firsts_all (by rw [HL.out.len]; omega)] at HV
        exact ((HV.out.setCell (by simp) _).setCell (by simp) _).mono (by omega)
      · exact (hB.setCell (Nat.le_refl _) _).setCell (Nat.le_refl _) _

end Go.Proofs.Ytgcbdjmlhjbacaa.T
