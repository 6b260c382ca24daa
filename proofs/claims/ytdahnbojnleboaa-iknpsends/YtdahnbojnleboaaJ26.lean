/- Bits of truths: Of. Bits copied: Raw, With, Bools. -/
import Derived.Test.YtdahnbojnleboaaJ25
import Derived.Deep.RegionHeld3
import Derived.Laws.CopyRow
namespace Go.Proofs.Ytdahnbojnleboaa.T
open Go.RowKit
set_option maxRecDepth 100000
attribute [local go_sem] not_any mf_any

/- truths in memory -/
structure Bl (w : World) (n : Nat) (a : Option Addr) (l : List Bool) : Prop where
  len : l.length = n
  at' : ∀ (j : Nat) (x : Bool), l[j]? = some x → ∃ g o, a = some ⟨g, o, none⟩ ∧ w.cell? ⟨g, o + j, none⟩ = some (.bool x)

theorem lt_cell {w : World} {b o : Nat} {v : Value} (h : w.cell? ⟨b, o, none⟩ = some v) : b < w.heap.size := block_lt_of_cell h

theorem Bl.below {B : Nat} {w w' : World} {n : Nat} {a : Option Addr} {l : List Bool} (h : Bl w n a l) (hB : Below B w w') (hs : w.heap.size ≤ B) : Bl w' n a l :=
  ⟨h.len, fun j x hj => by
    obtain ⟨g, o, h1, h2⟩ := h.at' j x hj
    exact ⟨g, o, h1, (hB.cell (p := ⟨g, o + j, none⟩) (by have := lt_cell h2; simp; omega)).trans h2⟩⟩

theorem wrow_set (ws : List Nat) (j x : Nat) : Obj.cells ((u64s ws).toArray.setIfInBounds j (.int .u64 (x : Int))) 24 (0, 0) = wrow (ws.set j x) := by
  unfold wrow u64s
  congr 1
  simp

theorem wset {w : World} {g j x : Nat} {ws : List Nat} (h : w.heap[g]? = some (wrow ws)) : (w.setCell ⟨g, j, none⟩ (.int .u64 (x : Int))).heap[g]? = some (wrow (ws.set j x)) := by
  rw [heap_setCell_same w g j _ 24 _ h, wrow_set]

theorem bool_ext {l l' : List Bool} (h : l.length = l'.length) (h' : ∀ j, j < l.length → l.getD j false = l'.getD j false) : l = l' := by
  apply List.ext_getElem h
  intro j h1 h2
  have := h' j h1
  rw [List.getD_eq_getElem?_getD, List.getD_eq_getElem?_getD, List.getElem?_eq_getElem h1, List.getElem?_eq_getElem h2] at this
  exact this

theorem getD_of {l : List Bool} {k : Nat} {b : Bool} (h : l[k]? = some b) : l.getD k false = b := by rw [List.getD_eq_getElem?_getD, h]; rfl

/- the first k as they are, the others 0 -/
def firsts (l : List Bool) (k : Nat) : List Bool := (List.range l.length).map (fun j => decide (j < k) && l.getD j false)

theorem firsts_length (l : List Bool) (k : Nat) : (firsts l k).length = l.length := by simp [firsts]

theorem firsts_getD (l : List Bool) (k j : Nat) : (firsts l k).getD j false = (decide (j < k) && l.getD j false) := by
  rw [List.getD_eq_getElem?_getD]
  unfold firsts
  rw [List.getElem?_map]
  by_cases h : j < l.length
  · rw [List.getElem?_range h]
    rfl
  · rw [List.getElem?_eq_none (by simp; omega), List.getD_eq_getElem?_getD, List.getElem?_eq_none (by omega)]
    simp

theorem firsts_zero (l : List Bool) : firsts l 0 = List.replicate l.length false := by
  apply bool_ext
  · simp [firsts]
  · intro j hj
    rw [firsts_getD]
    simp [List.getD_eq_getElem?_getD, List.getElem?_replicate]
    split <;> rfl

theorem firsts_all {l : List Bool} {k : Nat} (h : l.length ≤ k) : firsts l k = l := by
  apply bool_ext (firsts_length _ _)
  intro j hj
  rw [firsts_length] at hj
  rw [firsts_getD]
  have : j < k := by omega
  simp [this]

theorem firsts_succ {l : List Bool} {k : Nat} {b : Bool} (h : l[k]? = some b) : firsts l (k + 1) = (firsts l k).set k b := by
  have hk : k < l.length := (List.getElem?_eq_some_iff.1 h).1
  apply bool_ext (by simp [firsts_length])
  intro j hj
  rw [getD_set _ _ _ _ (by rw [firsts_length]; exact hk), firsts_getD, firsts_getD]
  by_cases h1 : j = k
  · subst h1
    rw [if_pos rfl, getD_of h]
    simp
  · rw [if_neg h1]
    have : (j < k + 1) ↔ j < k := by omega
    simp [this]

theorem firsts_false {l : List Bool} {k : Nat} (h : l[k]? = some false) : firsts l (k + 1) = firsts l k := by
  apply bool_ext (by simp [firsts_length])
  intro j hj
  rw [firsts_getD, firsts_getD]
  by_cases h1 : j = k
  · subst h1
    rw [getD_of h]
    simp
  · have : (j < k + 1) ↔ j < k := by omega
    simp [this]

theorem Vc.set {b : Nat} {w : World} {n g k x : Nat} {l : List Bool} (h : Vc b w n (some ⟨g, 0, none⟩) l) (l' : List Bool) (hl : l'.length = n) (hx : chunks 64 l' = (chunks 64 l).set k x) : Vc b (w.setCell ⟨g, k, none⟩ (.int .u64 (x : Int))) n (some ⟨g, 0, none⟩) l' := by
  obtain ⟨_, h | ⟨g', h1, h2, h3⟩⟩ := h
  · cases h.2
  · cases h1
    refine ⟨hl, .inr ⟨g, rfl, h2, ?_⟩⟩
    rw [hx]
    exact wset h3

theorem Vc.drew {b : Nat} {w : World} {n : Nat} {a : Option Addr} {l : List Bool} (h : Vc b w n a l) : Vc b w.drew n a l := ⟨h.len, h.at'⟩
theorem Vc.drewN {b : Nat} {w : World} {n : Nat} {a : Option Addr} {l : List Bool} (h : Vc b w n a l) (k : Nat) : Vc b (w.drewN k) n a l := ⟨h.len, h.at'⟩

/- the block that a slice lies in -/
def blk (a : Option Addr) : Option Nat := a.map (·.block)

theorem Vc.blk {b : Nat} {w : World} {n : Nat} {a : Option Addr} {l : List Bool} (h : Vc b w n a l) : ∀ k, blk a = some k → b ≤ k ∧ k < w.heap.size := by
  intro k hk
  obtain ⟨_, h | ⟨g, h1, h2, h3⟩⟩ := h
  · rw [h.2] at hk; cases hk
  · rw [h1] at hk
    cases hk
    exact ⟨h2, lt_heap h3⟩

theorem or_pow {x j : Nat} (hx : x < 18446744073709551616) (hj : j < 64) : bits .or .u64 (x : Int) (2 ^ j) = ((x ||| 2 ^ j : Nat) : Int) := by
  rw [pow_cast, u64_or_nat _ _ hx (pow_lt hj)]

set_option maxHeartbeats 2000000 in
theorem of_any (w : World) (n cap : Nat) (a : Option Addr) (l : List Bool) (hl : Bl w n a l) (hn : n ≤ 4194304) :
    Calls Try.prog 9 #[.slice a n cap] w fun e w' => ∃ av, e = .returned (.tuple #[.agg #[.int .i64 n, .slice av (need n 64) (need n 64)], .int .i64 0]) ∧ Vc w.heap.size w' n av l ∧ Below w.heap.size w w' := by
  have hN := fun w => hide1 (new_any n w hn)
  have HL := hide1 hl
  have hS := fun k w h => hide1 (single_any k w h)
  clear hl
  go_enter Try.func9, Try.ntmps9
  go_wp2_with (first | (go_at_call 22; refine (hN _).out.mono ?_; rintro e w1 ⟨av, rfl, hv, hb⟩))
  have hbx := after_alloc hb
  have l0 := lt_heap hbx
  have HG : Hid (∀ g, av = some ⟨g, 0, none⟩ → w.heap.size < g ∧ g < w1.heap.size) := by
    intro g hg
    obtain ⟨_, h | ⟨g', h1, h2, h3⟩⟩ := hv
    · rw [h.2] at hg; cases hg
    · rw [h1] at hg
      cases hg
      exact ⟨by simp at h2; omega, lt_heap h3⟩
  go_loopw [20] (fun i wr => ∃ k : Nat, k ≤ n ∧ i = .int .i64 k ∧ Vc (w.heap.size + 1) wr n av (firsts l k) ∧ wr.heap[w.heap.size]? = some (.cells #[.int .i64 0, .slice none 0 0] 40 (0, 0)) ∧
      wr.heap[w1.heap.size]? = some (.cells #[.int .i64 n, .slice av (need n 64) (need n 64)] 40 (0, 0)) ∧ Below w.heap.size w wr) (fun i _ => n - (intOf i).toNat)
  case atStart =>
    refine ⟨0, Nat.zero_le _, rfl, ?_, (Below.heap_alloc _ _ _ l0).trans hbx, heap_alloc_new _ _, (below_after hb).alloc (by omega) _⟩
    rw [firsts_zero, HL.out.len]
    simpa using hv.alloc _
  case round =>
    obtain ⟨k, hk, rfl, hV, hs, ht, hB⟩ := hrel
    by_cases hlt : k < n
    · obtain ⟨x, hx⟩ : ∃ x, l[k]? = some x := ⟨_, List.getElem?_eq_getElem (by rw [HL.out.len]; exact hlt)⟩
      obtain ⟨gl, o, rfl, hcl⟩ := (HL.out.below hB (Nat.le_refl _)).at' k x hx
      cases x with
      | false =>
        have HF := hide1 (firsts_false hx)
        have HV := hide1 hV
        have HS := hide1 hs
        have HT := hide1 ht
        clear hx hV hs ht
        go_wp2
        go_roundw
        case rel => exact ⟨k + 1, by omega, by go_num, by rw [HF.out]; exact HV.out, HS.out, HT.out, hB⟩
        case measure => simp [intOf]; omega
      | true =>
        have HF := hide1 (firsts_succ hx)
        have hkd : k / 64 < need n 64 := by rw [need64]; omega
        obtain ⟨g, rfl, hbg, hg, hc⟩ := hV.cell hkd
        have hgg := HG.out g rfl
        have hfz : wr.frozen? ⟨g, k / 64, none⟩ = false := frozen_of_row wr g _ _ _ hg
        obtain ⟨d0, d1, _, _, ltt⟩ := box2 ht
        have hk0 : (0 : Int) ≤ (k : Int) / 64 := by omega
        have hk1 : (k : Int) / 64 < (need n 64 : Int) := by omega
        have hk2 : ((k : Int) / 64).toNat = k / 64 := by omega
        have hkw : IntKind.i64.wrap ((k : Int) / 64) = (k : Int) / 64 := by rw [IntKind.wrap_i64]; omega
        have HV := hide1 hV
        have HS := hide1 hs
        have HT := hide1 ht
        have hSk := fun w => hS k w (by omega)
        clear hx hV hs ht hg hS
        go_wp2
        go_region_with (first | (go_at_call 23; refine (hSk _).out.mono ?_; rintro e w' ⟨rfl, rfl⟩))
        all_goals
          go_wp2
          go_roundw
          case rel =>
            rw [or_pow (chunk64_lt _ _) (Nat.mod_lt _ (by omega))]
            refine ⟨k + 1, by omega, by go_num, ?_, ?_, ?_, ?_⟩
            · refine (HV.out.set (firsts l (k + 1)) (by rw [firsts_length]; exact HL.out.len) ?_).drew
              rw [HF.out]
              exact chunks_set_true (by omega) _ _ (by rw [firsts_length, HL.out.len]; exact hlt)
            · exact (Below.heap_setCell _ _ _ _ (by simp; omega)).trans HS.out
            · exact (Below.heap_setCell _ _ _ _ (by simp; omega)).trans HT.out
            · exact (hB.setCell (by simp; omega) _).drew
          case measure => simp [intOf]; omega
    · have : k = n := by omega
      subst this
      obtain ⟨d0, d1, _, _, ltt⟩ := box2 ht
      obtain ⟨e0, e1, e2, e3, lts⟩ := box2 hs
      have HV := hide1 hV
      have HS := hide1 hs
      clear hV hs
      go_wp2
      refine ret_vec2 Try.results9 w.heap.size _ _ _ rfl rfl (set_box2 HS.out) rfl ⟨_, rfl, ?_, ?_⟩
      · rw [firsts_all (by rw [HL.out.len]; omega)] at HV
        exact ((HV.out.setCell (by simp) _).setCell (by simp) _).mono (by omega)
      · exact (hB.setCell (Nat.le_refl _) _).setCell (Nat.le_refl _) _

end Go.Proofs.Ytdahnbojnleboaa.T

namespace Go.Proofs.Ytdahnbojnleboaa.T
open Go.RowKit
set_option maxRecDepth 100000
attribute [local go_sem] not_any mf_any

theorem size55 : (Try.prog.info? 24).map (·.size) = some 1 := by kernel_rfl

theorem addr_add (g o j : Nat) : (⟨g, o, none⟩ : Addr).add j = ⟨g, o + j, none⟩ := by unfold Addr.add; split <;> simp_all

theorem u64s_one (ws : List Nat) : ∀ v ∈ u64s ws, v.oneCell' = true := by
  intro v hv
  simp [u64s] at hv
  obtain ⟨x, _, rfl⟩ := hv
  rfl

theorem copy_words {W : World} {g gs m : Nat} {ws cur : List Nat} (hg : W.heap[g]? = some (wrow cur)) (hgs : W.heap[gs]? = some (wrow ws)) (h1 : cur.length = m) (h2 : ws.length = m) :
    (Builtin.copy_ #[38, 38] 3 #[.slice (some ⟨g, 0, none⟩) m m, .slice (some ⟨gs, 0, none⟩) m m]).run Try.prog W = .ok (goInt m) (W.setRow g (u64s ws).toArray) := by
  have h := run_copy_row (P := Try.prog) W 38 38 3 24 g 0 m m ⟨gs, 0, none⟩ m m (u64s cur).toArray 24 (u64s ws) Try.underlying38 size55 hg (by simp [u64s, h2]) (by
    intro j v hv
    rw [addr_add, Nat.zero_add, cell_of_row W gs j _ 24 (0, 0) hgs]
    simpa using hv) (by simp [u64s, h1, h2]) (u64s_one ws)
  rw [h]
  have e : (u64s ws).length = m := by simp [u64s, h2]
  rw [e]
  congr 2
  simp [u64s, h1]

theorem copy_nothing {W : World} (d a : Option Addr) : (Builtin.copy_ #[38, 38] 3 #[.slice d 0 0, .slice a 0 0]).run Try.prog W = .ok (goInt 0) W :=
  run_copy_none (P := Try.prog) W 38 38 3 24 d a 0 0 0 0 Try.underlying38 size55 rfl

theorem copy_vec {b b' : Nat} {W : World} {n : Nat} {a av : Option Addr} {l l0 : List Bool} (hs : Vc b W n a l) (hd : Vc b' W n av l0) :
    ∃ W', (Builtin.copy_ #[38, 38] 3 #[.slice av (need n 64) (need n 64), .slice a (need n 64) (need n 64)]).run Try.prog W = .ok (goInt (need n 64)) W' ∧ Vc b' W' n av l ∧ W.grownBy W' (blk av) := by
  by_cases h0 : n = 0
  · subst h0
    have hl : l = [] := List.eq_nil_of_length_eq_zero hs.len
    have hl0 : l0 = [] := List.eq_nil_of_length_eq_zero hd.len
    subst hl hl0
    exact ⟨W, copy_nothing av a, hd, ⟨rfl, rfl, rfl, Nat.le_refl _, fun _ _ _ => rfl⟩⟩
  · have hp : 0 < need n 64 := by rw [need64]; omega
    obtain ⟨gs, rfl, _, hgs, _⟩ := hs.cell hp
    obtain ⟨g, rfl, hb, hg, _⟩ := hd.cell hp
    refine ⟨_, copy_words hg hgs (by rw [chunks_length, hd.len]) (by rw [chunks_length, hs.len]), ⟨hs.len, .inr ⟨g, rfl, hb, setRow_heap W g _ _ _ _ hg⟩⟩, ⟨rfl, rfl, rfl, by simp, fun k _ hk => setRow_other W g k _ (fun e => hk (by simp [blk, e]))⟩⟩

theorem after2 {w w1 : World} {o1 o2 : Obj} (hb : Below ((w.alloc o1).alloc o2).heap.size ((w.alloc o1).alloc o2) w1) :
    w1.heap[w.heap.size]? = some o1 ∧ w1.heap[w.heap.size + 1]? = some o2 ∧ Below w.heap.size w w1 :=
  ⟨(hb.block _ (by simp; omega)).trans (heap_alloc2_old _ _ _), (hb.block _ (by simp)).trans (heap_alloc2_new _ _ _), (((Below.refl _ _).alloc (Nat.le_refl _) _).alloc (by simp) _).trans (hb.mono (by simp; omega))⟩

set_option maxHeartbeats 1000000 in
theorem copied_any (b : Nat) (w : World) (n : Nat) (a : Option Addr) (l : List Bool) (hv : Vc b w n a l) (hn : n ≤ 4194304) :
    Calls Try.prog 77 #[.agg #[.int .i64 n, .slice a (need n 64) (need n 64)]] w fun e w' => ∃ a', e = .returned (.agg #[.int .i64 n, .slice a' (need n 64) (need n 64)]) ∧ Vc w.heap.size w' n a' l ∧ Below w.heap.size w w' := by
  have hB := fun w => hide1 (blank_any n w hn)
  have HV := hide1 hv
  clear hv
  go_enter Try.func77, Try.ntmps77
  go_wp2_with (first | (go_at_call 42; refine (hB _).out.mono ?_; rintro e w1 ⟨av, rfl, hv1, hb⟩; obtain ⟨hx1, hx2, hbw⟩ := after2 hb; obtain ⟨c0, c1, _, _, l1⟩ := box2 hx1; obtain ⟨W', hcp, hV', hgr⟩ := copy_vec ((HV.out.below hbw (Nat.le_refl _)).alloc (.cells #[.int .i64 n, .slice av (need n 64) (need n 64)] 40)) (hv1.alloc _); have hk := hide1 hv1.blk; have HV' := hide1 hV'; have HX := hide1 hx2; have HX1 := hide1 hx1; clear hv1 hV' hx2 hx1; have q1 := (box2 ((hgr.block w1.heap.size (by simp) (fun e => by have := hk.out _ e.symm; omega)).trans (heap_alloc_new _ _))); have q2 := hide1 ((hgr.block (w.heap.size + 1) (by have := lt_heap HX.out; simp; omega) (fun e => by have := hk.out _ e.symm; simp at this; omega)).trans ((Below.heap_alloc _ _ _ (lt_heap HX.out)).trans HX.out)); have q3 := box2 q2.out; obtain ⟨s0, s1, _, _, lt1⟩ := q1; obtain ⟨t0, t1, t2, t3, lt2⟩ := q3))
  refine ret_vec Try.results77 (w.heap.size + 1) _ _ rfl (set_box2 q2.out) rfl ⟨_, rfl, ?_, ?_⟩
  · exact ((HV'.out.setCell (by simp) _).setCell (by simp) _).mono (by simp; omega)
  · exact (((hbw.alloc (by have := hbw.size; omega) _).grown hgr (by have := hbw.size; simp; omega) (fun k hk' => by have := hk.out k hk'; simp at this; omega)).setCell (by simp) _).setCell (by simp) _

end Go.Proofs.Ytdahnbojnleboaa.T
