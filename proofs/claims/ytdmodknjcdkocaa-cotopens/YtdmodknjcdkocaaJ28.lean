/- Bits copied: Raw, With, Bools. Bits told anew: Raw, With, Bools. Bits made word by word, and what is behind the last one cleared. -/
import Derived.Test.YtdmodknjcdkocaaJ27
import Derived.Laws.CopyRow
namespace Go.Proofs.Ytdmodknjcdkocaa.T
open Go.RowKit
set_option maxRecDepth 100000
attribute [local go_sem] not_any mf_any

theorem size55 : (Try.prog.info? 49).map (·.size) = some 1 := by kernel_rfl

theorem addr_add (g o j : Nat) : (⟨g, o, none⟩ : Addr).add j = ⟨g, o + j, none⟩ := by unfold Addr.add; split <;> simp_all

theorem u64s_one (ws : List Nat) : ∀ v ∈ u64s ws, v.oneCell' = true := by
  intro v hv
  simp [u64s] at hv
  obtain ⟨x, _, rfl⟩ := hv
  rfl

theorem copy_words {W : World} {g gs m : Nat} {ws cur : List Nat} (hg : W.heap[g]? = some (wrow cur)) (hgs : W.heap[gs]? = some (wrow ws)) (h1 : cur.length = m) (h2 : ws.length = m) :
    (Builtin.copy_ #[23, 23] 3 #[.slice (some ⟨g, 0, none⟩) m m, .slice (some ⟨gs, 0, none⟩) m m]).run Try.prog W = .ok (goInt m) (W.setRow g (u64s ws).toArray) := by
  have h := run_copy_row (P := Try.prog) W 23 23 3 49 g 0 m m ⟨gs, 0, none⟩ m m (u64s cur).toArray 49 (u64s ws) Try.underlying23 size55 hg (by simp [u64s, h2]) (by
    intro j v hv
    rw [addr_add, Nat.zero_add, cell_of_row W gs j _ 49 (0, 0) hgs]
    simpa using hv) (by simp [u64s, h1, h2]) (u64s_one ws)
  rw [h]
  have e : (u64s ws).length = m := by simp [u64s, h2]
  rw [e]
  congr 2
  simp [u64s, h1]

theorem copy_nothing {W : World} (d a : Option Addr) : (Builtin.copy_ #[23, 23] 3 #[.slice d 0 0, .slice a 0 0]).run Try.prog W = .ok (goInt 0) W :=
  run_copy_none (P := Try.prog) W 23 23 3 49 d a 0 0 0 0 Try.underlying23 size55 rfl

theorem copy_vec {b b' : Nat} {W : World} {n : Nat} {a av : Option Addr} {l l0 : List Bool} (hs : Vc b W n a l) (hd : Vc b' W n av l0) :
    ∃ W', (Builtin.copy_ #[23, 23] 3 #[.slice av (need n 64) (need n 64), .slice a (need n 64) (need n 64)]).run Try.prog W = .ok (goInt (need n 64)) W' ∧ Vc b' W' n av l ∧ W.grownBy W' (blk av) := by
  by_cases h0 : n = 0
  · subst h0
    have hl : l = [] := List.eq_nil_of_length_eq_zero hs.len
    have hl0 : l0 = [] := List.eq_nil_of_length_eq_zero hd.len
    subst hl hl0
    exact ⟨W, copy_nothing av a, hd, ⟨rfl, rfl, rfl, Nat.le_refl _, fun _ _ _ => rfl⟩⟩
  · have hp : 0 < need n 64 := by rw [need64]; omega
    obtain ⟨gs, rfl, _, hgs, _⟩ := hs.cell hp
    obtain ⟨g, rfl, hb, hg, _⟩ := hd.cell hp
    refine ⟨_, copy_words hg hgs (by rw [chunks_length, hd.len]) (by rw [chunks_length, hs.len]), ⟨hs.len, .inr ⟨g, rfl, hb, setRow_heap W g _ _ _ _ hg⟩⟩, ⟨rfl, rfl, rfl, by simp, fun k _ hk => setRow_other W g k _ (fun e => hk (by simp [blk, e]))⟩⟩

theorem after2 {w w1 : World} {o1 o2 : Obj} (hb : Below ((w.alloc o1).alloc o2).heap.size ((w.alloc o1).alloc o2) w1) :
    w1.heap[w.heap.size]? = some o1 ∧ w1.heap[w.heap.size + 1]? = some o2 ∧ Below w.heap.size w w1 :=
  ⟨(hb.block _ (by simp; omega)).trans (heap_alloc2_old _ _ _), (hb.block _ (by simp)).trans (heap_alloc2_new _ _ _), (((Below.refl _ _).alloc (Nat.le_refl _) _).alloc (by simp) _).trans (hb.mono (by simp; omega))⟩

end Go.Proofs.Ytdmodknjcdkocaa.T

namespace Go.Proofs.Ytdmodknjcdkocaa.T
open Go.RowKit
set_option maxRecDepth 100000
theorem field_words (x : Value) (a : Option Addr) (n c : Nat) (w : World) : (Instr.field 37 (.agg #[x, .slice a n c]) 1).run Try.prog w = .ok (.slice a n c) w := by kernel_rfl
attribute [local go_sem] not_any mf_any field_words

theorem after3 {w w1 : World} {o1 o2 o3 : Obj} (hb : Below (((w.alloc o1).alloc o2).alloc o3).heap.size (((w.alloc o1).alloc o2).alloc o3) w1) :
    w1.heap[w.heap.size]? = some o1 ∧ w1.heap[w.heap.size + 1]? = some o2 ∧ w1.heap[w.heap.size + 2]? = some o3 ∧ Below w.heap.size w w1 := by
  have h := after2 (w := w.alloc o1) hb
  simp at h
  refine ⟨?_, h.1, h.2.1, ?_⟩
  · exact (hb.block _ (by simp; omega)).trans ((Below.heap_alloc _ _ _ (by simp; omega)).trans (heap_alloc2_old _ _ _))
  · exact ((Below.refl _ _).alloc (Nat.le_refl _) _).trans (h.2.2.mono (by omega))

def brow (l : List Bool) : Obj := .cells (bools l).toArray 4 (0, 0)

theorem make_bools (m : Nat) (hm : m ≤ 4194304) (w : World) : (Instr.makeSlice 35 (.int .i64 (m : Int)) (.int .i64 (m : Int))).run Try.prog w = .ok (.slice (some ⟨w.heap.size, 0, none⟩) m m) (w.alloc (brow (List.replicate m false))) := by
  have hi : (Try.prog.info? 4).map (fun i => (i.zero, i.size, i.bytes)) = some (some (.bool false), 1, 1) := by kernel_rfl
  obtain ⟨i0, hi, hz0, hz1, hz2⟩ := info_parts hi
  have h := run_make (P := Try.prog) w 35 4 i0 _ Try.underlying35 hi hz0 .i64 .i64 (m : Int) (m : Int) (by omega) (by omega) (by rw [hz2]; omega) (by omega)
  rw [h, hz1]
  have e : madeCells (Value.bool false).cells ((m : Int).toNat * 1) = (bools (List.replicate m false)).toArray := by
    apply Array.ext
    · simp [madeCells, bools]
    · intro j h1 h2
      simp [madeCells, bools, Value.cells, Nat.mod_one]
  rw [e]
  rfl

theorem brow_cell {w : World} {g j : Nat} {x : Bool} {l : List Bool} (h : w.heap[g]? = some (brow l)) (hj : l[j]? = some x) : w.cell? ⟨g, j, none⟩ = some (.bool x) := by
  rw [cell_of_row w g j _ 4 (0, 0) h]
  simp [bools, hj]

theorem bset {w : World} {g j : Nat} {x : Bool} {l : List Bool} (h : w.heap[g]? = some (brow l)) : (w.setCell ⟨g, j, none⟩ (.bool x)).heap[g]? = some (brow (l.set j x)) := by
  rw [heap_setCell_same w g j _ 4 _ h]
  unfold brow bools
  congr 2
  simp

theorem bl_of_row {w : World} {g : Nat} {l : List Bool} (h : w.heap[g]? = some (brow l)) : Bl w l.length (some ⟨g, 0, none⟩) l :=
  ⟨rfl, fun j x hj => ⟨g, 0, rfl, by rw [Nat.zero_add]; exact brow_cell h hj⟩⟩

theorem andNot_pow {x j : Nat} (hx : x < 18446744073709551616) (hj : j < 64) : bits .andNot .u64 (x : Int) (2 ^ j) = ((x &&& (2 ^ 64 - 1 - 2 ^ j) : Nat) : Int) := by
  rw [pow_cast, u64_andNot_nat _ _ hx (pow_lt hj)]

end Go.Proofs.Ytdmodknjcdkocaa.T

namespace Go.Proofs.Ytdmodknjcdkocaa.T
open Go.RowKit
set_option maxRecDepth 100000
attribute [local go_sem] not_any mf_any

theorem mask_and {x j : Nat} (hx : x < 18446744073709551616) (hj : j < 64) : bits .and .u64 (x : Int) (2 ^ j - 1) = ((x &&& (2 ^ j - 1) : Nat) : Int) := by
  have h1 := pow_lt hj
  have h2 := Nat.two_pow_pos j
  rw [show ((2 : Int) ^ j - 1) = ((2 ^ j - 1 : Nat) : Int) by rw [pow_cast]; omega, u64_and_nat _ _ hx (by omega)]

/- words in a block from b on: any, not yet cleared behind the last bit -/
structure Wr (b : Nat) (w : World) (n : Nat) (a : Option Addr) (ws : List Nat) : Prop where
  len : ws.length = need n 64
  lt : ∀ (k : Nat) (x : Nat), ws[k]? = some x → x < 18446744073709551616
  at' : (n = 0 ∧ a = none) ∨ ∃ g, a = some ⟨g, 0, none⟩ ∧ b ≤ g ∧ w.heap[g]? = some (wrow ws)

theorem Vc.wr {b : Nat} {w : World} {n : Nat} {a : Option Addr} {l : List Bool} (h : Vc b w n a l) : Wr b w n a (chunks 64 l) :=
  ⟨by rw [chunks_length, h.len], fun k x hx => by rw [(chunks_get' hx).2]; exact chunk64_lt _ _, h.at'⟩

theorem Wr.vc {b : Nat} {w : World} {n : Nat} {a : Option Addr} {l : List Bool} (h : Wr b w n a (chunks 64 l)) (hl : l.length = n) : Vc b w n a l := ⟨hl, h.at'⟩

theorem Wr.block {b : Nat} {w : World} {n j : Nat} {a : Option Addr} {ws : List Nat} (h : Wr b w n a ws) (hj : j < need n 64) : ∃ g, a = some ⟨g, 0, none⟩ ∧ b ≤ g ∧ w.heap[g]? = some (wrow ws) := by
  obtain ⟨_, _, h | h⟩ := h
  · obtain ⟨rfl, _⟩ := h
    simp [need64] at hj
  · exact h

theorem Wr.kept {b : Nat} {w w' : World} {n : Nat} {a : Option Addr} {ws : List Nat} (h : Wr b w n a ws) (hk : ∀ g, a = some ⟨g, 0, none⟩ → w'.heap[g]? = w.heap[g]?) : Wr b w' n a ws := by
  obtain ⟨h1, h2, h | ⟨g, h3, h4, h5⟩⟩ := h
  · exact ⟨h1, h2, .inl h⟩
  · exact ⟨h1, h2, .inr ⟨g, h3, h4, (hk g h3).trans h5⟩⟩

theorem Vc.kept {b : Nat} {w w' : World} {n : Nat} {a : Option Addr} {l : List Bool} (h : Vc b w n a l) (hk : ∀ g, a = some ⟨g, 0, none⟩ → w'.heap[g]? = w.heap[g]?) : Vc b w' n a l := by
  obtain ⟨h1, h | ⟨g, h3, h4, h5⟩⟩ := h
  · exact ⟨h1, .inl h⟩
  · exact ⟨h1, .inr ⟨g, h3, h4, (hk g h3).trans h5⟩⟩

theorem Wr.below {b B : Nat} {w w' : World} {n : Nat} {a : Option Addr} {ws : List Nat} (h : Wr b w n a ws) (hB : Below B w w') (hs : w.heap.size ≤ B) : Wr b w' n a ws := by
  obtain ⟨h1, h2, h | ⟨g, h3, h4, h5⟩⟩ := h
  · exact ⟨h1, h2, .inl h⟩
  · exact ⟨h1, h2, .inr ⟨g, h3, h4, (hB.block g (by have := lt_heap h5; omega)).trans h5⟩⟩

theorem Wr.alloc {b : Nat} {w : World} {n : Nat} {a : Option Addr} {ws : List Nat} (h : Wr b w n a ws) (o : Obj) : Wr b (w.alloc o) n a ws :=
  h.below (B := w.heap.size) ((Below.refl _ _).alloc (Nat.le_refl _) _) (Nat.le_refl _)

theorem Wr.blk {b : Nat} {w : World} {n : Nat} {a : Option Addr} {ws : List Nat} (h : Wr b w n a ws) : ∀ k, blk a = some k → b ≤ k ∧ k < w.heap.size := by
  intro k hk
  obtain ⟨_, _, h | ⟨g, h1, h2, h3⟩⟩ := h
  · rw [h.2] at hk; cases hk
  · rw [h1] at hk
    cases hk
    exact ⟨h2, lt_heap h3⟩

theorem Wr.set {b : Nat} {w : World} {n g k x : Nat} {ws : List Nat} (h : Wr b w n (some ⟨g, 0, none⟩) ws) (hx : x < 18446744073709551616) : Wr b (w.setCell ⟨g, k, none⟩ (.int .u64 (x : Int))) n (some ⟨g, 0, none⟩) (ws.set k x) := by
  obtain ⟨h1, h2, h | ⟨g', h3, h4, h5⟩⟩ := h
  · cases h.2
  · cases h3
    refine ⟨by simpa using h1, fun j y hy => ?_, .inr ⟨g, rfl, h4, wset h5⟩⟩
    rw [List.getElem?_set] at hy
    split at hy
    · split at hy
      · cases hy; exact hx
      · cases hy
    · exact h2 j y hy

set_option maxHeartbeats 1000000 in
theorem trim_any (b : Nat) (w : World) (n : Nat) (a : Option Addr) (ws : List Nat) (hn : n ≤ 4194304) (hw : Wr b w n a ws) :
    Calls Try.prog 48 #[.agg #[.int .i64 n, .slice a (need n 64) (need n 64)]] w fun e w' => e = .returned (.tuple #[]) ∧ Wr b w' n a (trimmed n ws) ∧ w.grownBy w' (blk a) := by
  by_cases h0 : 0 < n % 64
  · have hm : need n 64 - 1 < need n 64 := by rw [need64]; omega
    obtain ⟨g, rfl, hbg, hg⟩ := hw.block hm
    obtain ⟨hl, hb, _⟩ := hw
    obtain ⟨x, hx⟩ : ∃ x, ws[need n 64 - 1]? = some x := ⟨_, List.getElem?_eq_getElem (by omega)⟩
    have hc := row_cell hg hx
    have hfz := frozen_of_row w g (need n 64 - 1) _ _ hg
    have hgl := lt_heap hg
    have hxl := hb _ _ hx
    have h1 : (0 : Int) < (n : Int) % 64 := by omega
    have HT : Hid (trimmed n ws = ws.set (need n 64 - 1) (x &&& (2 ^ (n % 64) - 1))) := by
      unfold Hid trimmed
      rw [if_pos h0, hl, List.getD_eq_getElem?_getD, hx]
      rfl
    have HG := hide1 hg
    have hk0 : (0 : Int) ≤ (need n 64 : Int) - 1 := by omega
    have hk1 : (need n 64 : Int) - 1 < (need n 64 : Int) := by omega
    have hk2 : ((need n 64 : Int) - 1).toNat = need n 64 - 1 := by omega
    have hmm : need n 64 ≤ 65536 := by rw [need64]; omega
    have hkw : IntKind.i64.wrap ((need n 64 : Int) - 1) = (need n 64 : Int) - 1 := by rw [IntKind.wrap_i64]; omega
    have hpw : IntKind.u64.wrap (2 ^ (n % 64)) = 2 ^ (n % 64) := by rw [wrap_pow (Nat.mod_lt _ (by omega))]; simp
    have hpw2 : IntKind.u64.wrap (2 ^ (n % 64) - 1) = 2 ^ (n % 64) - 1 := by
      have h1 := pow_lt (Nat.mod_lt n (show 64 > 0 by omega))
      have h2 := Nat.two_pow_pos (n % 64)
      rw [pow_cast, IntKind.wrap_u64]
      omega
    have hl' := hl
    have hb' := hide1 hb
    clear hg hx hl hb
    go_enter Try.func48, Try.ntmps48
    go_wp2
    go_region
    rw [mask_and hxl (Nat.mod_lt _ (by omega))]
    go_end0
    refine ⟨rfl, ?_, ?_⟩
    · rw [HT.out]
      refine Wr.kept (w := w.setCell ⟨g, need n 64 - 1, none⟩ (.int .u64 ((x &&& (2 ^ (n % 64) - 1) : Nat) : Int))) (Wr.set ⟨hl', hb'.out, .inr ⟨g, rfl, hbg, HG.out⟩⟩ (Nat.lt_of_le_of_lt Nat.and_le_left hxl)) ?_
      intro g' hg'
      cases hg'
      exact Below.heap_alloc _ _ _ (by simp; exact hgl)
    · refine ⟨rfl, rfl, rfl, by simp, fun k hk hne => ?_⟩
      exact (Below.heap_alloc _ _ _ (by simp; exact hk)).trans (Below.heap_setCell _ _ _ _ (fun e => hne (by simp [Ytdmodknjcdkocaa.T.blk, e])))
  · have h1 : ¬ (0 : Int) < (n : Int) % 64 := by omega
    go_enter Try.func48, Try.ntmps48
    go_wp2
    go_end0
    refine ⟨rfl, ?_, World.grownBy_alloc _ _ _⟩
    rw [trimmed, if_neg h0]
    exact hw.alloc _

end Go.Proofs.Ytdmodknjcdkocaa.T
