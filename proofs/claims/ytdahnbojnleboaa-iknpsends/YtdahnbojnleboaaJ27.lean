/- Bits told anew: Raw, With, Bools. Bits as bytes. Bits made word by word, and what is behind the last one cleared. -/
import Derived.Test.YtdahnbojnleboaaJ26
namespace Go.Proofs.Ytdahnbojnleboaa.T
open Go.RowKit
set_option maxRecDepth 100000
theorem field_words (x : Value) (a : Option Addr) (n c : Nat) (w : World) : (Instr.field 40 (.agg #[x, .slice a n c]) 1).run Try.prog w = .ok (.slice a n c) w := by kernel_rfl
attribute [local go_sem] not_any mf_any field_words

theorem after3 {w w1 : World} {o1 o2 o3 : Obj} (hb : Below (((w.alloc o1).alloc o2).alloc o3).heap.size (((w.alloc o1).alloc o2).alloc o3) w1) :
    w1.heap[w.heap.size]? = some o1 ∧ w1.heap[w.heap.size + 1]? = some o2 ∧ w1.heap[w.heap.size + 2]? = some o3 ∧ Below w.heap.size w w1 := by
  have h := after2 (w := w.alloc o1) hb
  simp at h
  refine ⟨?_, h.1, h.2.1, ?_⟩
  · exact (hb.block _ (by simp; omega)).trans ((Below.heap_alloc _ _ _ (by simp; omega)).trans (heap_alloc2_old _ _ _))
  · exact ((Below.refl _ _).alloc (Nat.le_refl _) _).trans (h.2.2.mono (by omega))

theorem raw_any (b : Nat) (w : World) (n : Nat) (a : Option Addr) (l : List Bool) (hv : Vc b w n a l) (hn : n ≤ 4194304) :
    Calls Try.prog 64 #[.agg #[.int .i64 n, .slice a (need n 64) (need n 64)]] w fun e w' => ∃ a', e = .returned (.slice a' (need n 64) (need n 64)) ∧ Vc w.heap.size w' n a' l ∧ Below w.heap.size w w' := by
  have hC := fun w h => hide1 (copied_any b w n a l h hn)
  have HV := hide1 hv
  clear hv
  go_enter Try.func64, Try.ntmps64
  go_wp2_with (first | (go_at_call 77; refine (hC _ (HV.out.alloc _)).out.mono ?_; rintro e w1 ⟨av, rfl, hv1, hb⟩))
  go_ret
  exact ⟨_, rfl, hv1.mono (by simp), below_after hb⟩

def brow (l : List Bool) : Obj := .cells (bools l).toArray 4 (0, 0)

theorem make_bools (m : Nat) (hm : m ≤ 4194304) (w : World) : (Instr.makeSlice 25 (.int .i64 (m : Int)) (.int .i64 (m : Int))).run Try.prog w = .ok (.slice (some ⟨w.heap.size, 0, none⟩) m m) (w.alloc (brow (List.replicate m false))) := by
  have hi : (Try.prog.info? 4).map (fun i => (i.zero, i.size, i.bytes)) = some (some (.bool false), 1, 1) := by kernel_rfl
  obtain ⟨i0, hi, hz0, hz1, hz2⟩ := info_parts hi
  have h := run_make (P := Try.prog) w 25 4 i0 _ Try.underlying25 hi hz0 .i64 .i64 (m : Int) (m : Int) (by omega) (by omega) (by rw [hz2]; omega) (by omega)
  rw [h, hz1]
  have e : madeCells (Value.bool false).cells ((m : Int).toNat * 1) = (bools (List.replicate m false)).toArray := by
    apply Array.ext
    · simp [madeCells, bools]
    · intro j h1 h2
      simp [madeCells, bools, Value.cells, Nat.mod_one]
  rw [e]
  rfl

theorem brow_cell {w : World} {g j : Nat} {x : Bool} {l : List Bool} (h : w.heap[g]? = some (brow l)) (hj : l[j]? = some x) : w.cell? ⟨g, j, none⟩ = some (.bool x) := by
  rw [cell_of_row w g j _ 4 (0, 0) h]
  simp [bools, hj]

theorem bset {w : World} {g j : Nat} {x : Bool} {l : List Bool} (h : w.heap[g]? = some (brow l)) : (w.setCell ⟨g, j, none⟩ (.bool x)).heap[g]? = some (brow (l.set j x)) := by
  rw [heap_setCell_same w g j _ 4 _ h]
  unfold brow bools
  congr 2
  simp

theorem bl_of_row {w : World} {g : Nat} {l : List Bool} (h : w.heap[g]? = some (brow l)) : Bl w l.length (some ⟨g, 0, none⟩) l :=
  ⟨rfl, fun j x hj => ⟨g, 0, rfl, by rw [Nat.zero_add]; exact brow_cell h hj⟩⟩

set_option maxHeartbeats 2000000 in
theorem bools_any (b : Nat) (w : World) (n : Nat) (a : Option Addr) (l : List Bool) (hv : Vc b w n a l) (hn : n ≤ 4194304) :
    Calls Try.prog 14 #[.agg #[.int .i64 n, .slice a (need n 64) (need n 64)]] w fun e w' => ∃ a', e = .returned (.slice a' n n) ∧ Bl w' n a' l ∧ Below w.heap.size w w' := by
  have hmk := make_bools n hn
  have HV := hide1 hv
  clear hv
  go_enter Try.func14, Try.ntmps14
  go_wp2
  clear hmk
  go_loopw [10] (fun i wr => ∃ k : Nat, k ≤ n ∧ i = .int .i64 k ∧ wr.heap[w.heap.size + 1]? = some (brow (firsts l k)) ∧ wr.heap[w.heap.size]? = some (.cells #[.int .i64 n, .slice a (need n 64) (need n 64)] 40 (0, 0)) ∧ Below w.heap.size w wr) (fun i _ => n - (intOf i).toNat)
  case atStart =>
    refine ⟨0, Nat.zero_le _, rfl, ?_, heap_alloc2_old _ _ _, ((Below.refl _ _).alloc (Nat.le_refl _) _).alloc (by simp) _⟩
    rw [firsts_zero, HV.out.len]
    exact heap_alloc2_new _ _ _
  case round =>
    obtain ⟨k, hk, rfl, hr, hx, hB⟩ := hrel
    by_cases hlt : k < n
    · obtain ⟨x, hxk⟩ : ∃ x, l[k]? = some x := ⟨_, List.getElem?_eq_getElem (by rw [HV.out.len]; exact hlt)⟩
      have HF := hide1 (firsts_succ hxk)
      have HG := hide1 (get_any b wr n a l k (HV.out.below hB (Nat.le_refl _)) hn)
      obtain ⟨d0, d1, _, _, l1⟩ := box2 hx
      rw [getI_nat, getD_of hxk] at HG
      have HR := hide1 hr
      have HX := hide1 hx
      clear hr hx hxk
      go_wp2_with (first | (go_at_call 32; refine HG.out.mono ?_; rintro e w2 ⟨rfl, hq⟩; have hb2 := gr_below hq; have r2 := hide1 ((hb2.block _ (lt_heap HR.out)).trans HR.out); have x2 := hide1 ((hb2.block _ (lt_heap HX.out)).trans HX.out); have hfz := frozen_of_row w2 (w.heap.size + 1) k _ _ r2.out; have hcc := brow_cell (j := k) r2.out (List.getElem?_eq_getElem (by rw [firsts_length, HV.out.len]; exact hlt)); clear hq))
      go_roundw
      case rel =>
        refine ⟨k + 1, by omega, by go_num, ?_, ?_, ?_⟩
        · rw [HF.out]
          exact bset r2.out
        · exact (Below.heap_setCell _ _ _ _ (by simp)).trans x2.out
        · exact (hB.trans (hb2.mono hB.size)).setCell (by simp) _
      case measure => simp [intOf]; omega
    · have : k = n := by omega
      subst this
      go_wp2
      go_ret
      refine ⟨_, rfl, ?_, hB⟩
      rw [firsts_all (by rw [HV.out.len]; omega)] at hr
      have := bl_of_row hr
      rwa [HV.out.len] at this

theorem andNot_pow {x j : Nat} (hx : x < 18446744073709551616) (hj : j < 64) : bits .andNot .u64 (x : Int) (2 ^ j) = ((x &&& (2 ^ 64 - 1 - 2 ^ j) : Nat) : Int) := by
  rw [pow_cast, u64_andNot_nat _ _ hx (pow_lt hj)]

end Go.Proofs.Ytdahnbojnleboaa.T

namespace Go.Proofs.Ytdahnbojnleboaa.T
open Go.RowKit
set_option maxRecDepth 100000
attribute [local go_sem] not_any mf_any

def u8s (bs : List Nat) : List Value := bs.map (fun n : Nat => Value.int .u8 (n : Int))
def u8row (bs : List Nat) : Obj := .cells (u8s bs).toArray 5 (0, 0)
/- a text of bytes -/
def txt (bs : List Nat) : ByteArray := strOfNums (bs.map (fun n : Nat => (n : Int)))

theorem make_bytes (m : Nat) (hm : m ≤ 4194304) (w : World) : (Instr.makeSlice 88 (.int .i64 (m : Int)) (.int .i64 (m : Int))).run Try.prog w = .ok (.slice (some ⟨w.heap.size, 0, none⟩) m m) (w.alloc (u8row (List.replicate m 0))) := by
  have hi : (Try.prog.info? 5).map (fun i => (i.zero, i.size, i.bytes)) = some (some (.int .u8 0), 1, 1) := by kernel_rfl
  obtain ⟨i0, hi, hz0, hz1, hz2⟩ := info_parts hi
  have h := run_make (P := Try.prog) w 88 5 i0 _ Try.underlying88 hi hz0 .i64 .i64 (m : Int) (m : Int) (by omega) (by omega) (by rw [hz2]; omega) (by omega)
  rw [h, hz1]
  have e : madeCells (Value.int IntKind.u8 0).cells ((m : Int).toNat * 1) = (u8s (List.replicate m 0)).toArray := by
    apply Array.ext
    · simp [madeCells, u8s]
    · intro j h1 h2
      simp [madeCells, u8s, Value.cells, Nat.mod_one]
  rw [e]
  rfl

theorem u8_cell {w : World} {g j x : Nat} {bs : List Nat} (h : w.heap[g]? = some (u8row bs)) (hj : bs[j]? = some x) : w.cell? ⟨g, j, none⟩ = some (.int .u8 (x : Int)) := by
  rw [cell_of_row w g j _ 5 (0, 0) h]
  simp [u8s, hj]

theorem u8set {w : World} {g j x : Nat} {bs : List Nat} (h : w.heap[g]? = some (u8row bs)) : (w.setCell ⟨g, j, none⟩ (.int .u8 (x : Int))).heap[g]? = some (u8row (bs.set j x)) := by
  rw [heap_setCell_same w g j _ 5 _ h]
  unfold u8row u8s
  congr 1
  simp

theorem text_of {w : World} {g n c : Nat} {bs : List Nat} (hl : bs.length = n) (hc : ∀ (j x : Nat), bs[j]? = some x → w.cell? ⟨g, j, none⟩ = some (.int .u8 (x : Int))) :
    (convert 88 9 (.slice (some ⟨g, 0, none⟩) n c)).run Try.prog w = .ok (.string (txt bs)) w := by
  refine run_convert_bytes_arg (P := Try.prog) w 88 5 Try.underlying88 Try.underlying5 g 0 n c (bs.map (fun n : Nat => (n : Int))) (by simp [hl]) ?_ 9 Try.underlying9
  intro i hi
  obtain ⟨x, hx⟩ : ∃ x, bs[i]? = some x := ⟨_, List.getElem?_eq_getElem (by omega)⟩
  rw [Nat.zero_add, hc i x hx, List.getD_eq_getElem?_getD, List.getElem?_map, hx]
  rfl

/- the first k chunks told, the others 0 -/
def chunkTo (s : Nat) (l : List Bool) (k : Nat) : List Nat := (List.range (need l.length s)).map (fun i => if i < k then chunk s l i else 0)
theorem chunkTo_zero (s : Nat) (l : List Bool) : chunkTo s l 0 = List.replicate (need l.length s) 0 := by
  apply List.ext_getElem
  · simp [chunkTo]
  · intro j h1 h2
    simp [chunkTo]
theorem chunkTo_all {s : Nat} {l : List Bool} {k : Nat} (h : need l.length s ≤ k) : chunkTo s l k = chunks s l := by
  apply List.ext_getElem
  · simp [chunkTo, chunks]
  · intro j h1 h2
    have : j < k := by simp [chunkTo] at h1; omega
    simp [chunkTo, chunks, this]
theorem chunkTo_length (s : Nat) (l : List Bool) (k : Nat) : (chunkTo s l k).length = need l.length s := by simp [chunkTo]
theorem chunkTo_succ {s : Nat} (l : List Bool) {k : Nat} : chunkTo s l (k + 1) = (chunkTo s l k).set k (chunk s l k) := by
  apply List.ext_getElem
  · simp [chunkTo]
  · intro j h1 h2
    rw [List.getElem_set]
    simp only [chunkTo, List.getElem_map, List.getElem_range]
    by_cases hj : k = j
    · subst hj
      simp
    · have : (j < k + 1) ↔ j < k := by omega
      simp [hj, this]

theorem byte_of_word (l : List Bool) (i : Nat) : chunk 64 l (i / 8) / 2 ^ (8 * (i % 8)) % 256 = chunk 8 l i := by
  apply Nat.eq_of_testBit_eq
  intro j
  rw [show 256 = 2 ^ 8 by rfl, Nat.testBit_mod_two_pow, Nat.testBit_div_two_pow, chunk_testBit, chunk_testBit]
  by_cases hj : j < 8
  · have h1 : j + 8 * (i % 8) < 64 := by omega
    have h2 : 64 * (i / 8) + (j + 8 * (i % 8)) = 8 * i + j := by omega
    rw [h2]
    simp [hj, h1]
  · simp [hj]

end Go.Proofs.Ytdahnbojnleboaa.T

namespace Go.Proofs.Ytdahnbojnleboaa.T
open Go.RowKit
set_option maxRecDepth 100000
attribute [local go_sem] not_any mf_any

theorem mask_and {x j : Nat} (hx : x < 18446744073709551616) (hj : j < 64) : bits .and .u64 (x : Int) (2 ^ j - 1) = ((x &&& (2 ^ j - 1) : Nat) : Int) := by
  have h1 := pow_lt hj
  have h2 := Nat.two_pow_pos j
  rw [show ((2 : Int) ^ j - 1) = ((2 ^ j - 1 : Nat) : Int) by rw [pow_cast]; omega, u64_and_nat _ _ hx (by omega)]

/- words in a block from b on: any, not yet cleared behind the last bit -/
structure Wr (b : Nat) (w : World) (n : Nat) (a : Option Addr) (ws : List Nat) : Prop where
  len : ws.length = need n 64
  lt : ∀ (k : Nat) (x : Nat), ws[k]? = some x → x < 18446744073709551616
  at' : (n = 0 ∧ a = none) ∨ ∃ g, a = some ⟨g, 0, none⟩ ∧ b ≤ g ∧ w.heap[g]? = some (wrow ws)

theorem Vc.wr {b : Nat} {w : World} {n : Nat} {a : Option Addr} {l : List Bool} (h : Vc b w n a l) : Wr b w n a (chunks 64 l) :=
  ⟨by rw [chunks_length, h.len], fun k x hx => by rw [(chunks_get' hx).2]; exact chunk64_lt _ _, h.at'⟩

theorem Wr.vc {b : Nat} {w : World} {n : Nat} {a : Option Addr} {l : List Bool} (h : Wr b w n a (chunks 64 l)) (hl : l.length = n) : Vc b w n a l := ⟨hl, h.at'⟩

theorem Wr.block {b : Nat} {w : World} {n j : Nat} {a : Option Addr} {ws : List Nat} (h : Wr b w n a ws) (hj : j < need n 64) : ∃ g, a = some ⟨g, 0, none⟩ ∧ b ≤ g ∧ w.heap[g]? = some (wrow ws) := by
  obtain ⟨_, _, h | h⟩ := h
  · obtain ⟨rfl, _⟩ := h
    simp [need64] at hj
  · exact h

theorem Wr.kept {b : Nat} {w w' : World} {n : Nat} {a : Option Addr} {ws : List Nat} (h : Wr b w n a ws) (hk : ∀ g, a = some ⟨g, 0, none⟩ → w'.heap[g]? = w.heap[g]?) : Wr b w' n a ws := by
  obtain ⟨h1, h2, h | ⟨g, h3, h4, h5⟩⟩ := h
  · exact ⟨h1, h2, .inl h⟩
  · exact ⟨h1, h2, .inr ⟨g, h3, h4, (hk g h3).trans h5⟩⟩

theorem Vc.kept {b : Nat} {w w' : World} {n : Nat} {a : Option Addr} {l : List Bool} (h : Vc b w n a l) (hk : ∀ g, a = some ⟨g, 0, none⟩ → w'.heap[g]? = w.heap[g]?) : Vc b w' n a l := by
  obtain ⟨h1, h | ⟨g, h3, h4, h5⟩⟩ := h
  · exact ⟨h1, .inl h⟩
  · exact ⟨h1, .inr ⟨g, h3, h4, (hk g h3).trans h5⟩⟩

theorem Wr.below {b B : Nat} {w w' : World} {n : Nat} {a : Option Addr} {ws : List Nat} (h : Wr b w n a ws) (hB : Below B w w') (hs : w.heap.size ≤ B) : Wr b w' n a ws := by
  obtain ⟨h1, h2, h | ⟨g, h3, h4, h5⟩⟩ := h
  · exact ⟨h1, h2, .inl h⟩
  · exact ⟨h1, h2, .inr ⟨g, h3, h4, (hB.block g (by have := lt_heap h5; omega)).trans h5⟩⟩

theorem Wr.alloc {b : Nat} {w : World} {n : Nat} {a : Option Addr} {ws : List Nat} (h : Wr b w n a ws) (o : Obj) : Wr b (w.alloc o) n a ws :=
  h.below (B := w.heap.size) ((Below.refl _ _).alloc (Nat.le_refl _) _) (Nat.le_refl _)

theorem Wr.blk {b : Nat} {w : World} {n : Nat} {a : Option Addr} {ws : List Nat} (h : Wr b w n a ws) : ∀ k, blk a = some k → b ≤ k ∧ k < w.heap.size := by
  intro k hk
  obtain ⟨_, _, h | ⟨g, h1, h2, h3⟩⟩ := h
  · rw [h.2] at hk; cases hk
  · rw [h1] at hk
    cases hk
    exact ⟨h2, lt_heap h3⟩

theorem Wr.set {b : Nat} {w : World} {n g k x : Nat} {ws : List Nat} (h : Wr b w n (some ⟨g, 0, none⟩) ws) (hx : x < 18446744073709551616) : Wr b (w.setCell ⟨g, k, none⟩ (.int .u64 (x : Int))) n (some ⟨g, 0, none⟩) (ws.set k x) := by
  obtain ⟨h1, h2, h | ⟨g', h3, h4, h5⟩⟩ := h
  · cases h.2
  · cases h3
    refine ⟨by simpa using h1, fun j y hy => ?_, .inr ⟨g, rfl, h4, wset h5⟩⟩
    rw [List.getElem?_set] at hy
    split at hy
    · split at hy
      · cases hy; exact hx
      · cases hy
    · exact h2 j y hy

set_option maxHeartbeats 1000000 in
theorem trim_any (b : Nat) (w : World) (n : Nat) (a : Option Addr) (ws : List Nat) (hn : n ≤ 4194304) (hw : Wr b w n a ws) :
    Calls Try.prog 84 #[.agg #[.int .i64 n, .slice a (need n 64) (need n 64)]] w fun e w' => e = .returned (.tuple #[]) ∧ Wr b w' n a (trimmed n ws) ∧ w.grownBy w' (blk a) := by
  by_cases h0 : 0 < n % 64
  · have hm : need n 64 - 1 < need n 64 := by rw [need64]; omega
    obtain ⟨g, rfl, hbg, hg⟩ := hw.block hm
    obtain ⟨hl, hb, _⟩ := hw
    obtain ⟨x, hx⟩ : ∃ x, ws[need n 64 - 1]? = some x := ⟨_, List.getElem?_eq_getElem (by omega)⟩
    have hc := row_cell hg hx
    have hfz := frozen_of_row w g (need n 64 - 1) _ _ hg
    have hgl := lt_heap hg
    have hxl := hb _ _ hx
    have h1 : (0 : Int) < (n : Int) % 64 := by omega
    have HT : Hid (trimmed n ws = ws.set (need n 64 - 1) (x &&& (2 ^ (n % 64) - 1))) := by
      unfold Hid trimmed
      rw [if_pos h0, hl, List.getD_eq_getElem?_getD, hx]
      rfl
    have HG := hide1 hg
    have hk0 : (0 : Int) ≤ (need n 64 : Int) - 1 := by omega
    have hk1 : (need n 64 : Int) - 1 < (need n 64 : Int) := by omega
    have hk2 : ((need n 64 : Int) - 1).toNat = need n 64 - 1 := by omega
    have hmm : need n 64 ≤ 65536 := by rw [need64]; omega
    have hkw : IntKind.i64.wrap ((need n 64 : Int) - 1) = (need n 64 : Int) - 1 := by rw [IntKind.wrap_i64]; omega
    have hpw : IntKind.u64.wrap (2 ^ (n % 64)) = 2 ^ (n % 64) := by rw [wrap_pow (Nat.mod_lt _ (by omega))]; simp
    have hpw2 : IntKind.u64.wrap (2 ^ (n % 64) - 1) = 2 ^ (n % 64) - 1 := by
      have h1 := pow_lt (Nat.mod_lt n (show 64 > 0 by omega))
      have h2 := Nat.two_pow_pos (n % 64)
      rw [pow_cast, IntKind.wrap_u64]
      omega
    have hl' := hl
    have hb' := hide1 hb
    clear hg hx hl hb
    go_enter Try.func84, Try.ntmps84
    go_wp2
    go_region
    rw [mask_and hxl (Nat.mod_lt _ (by omega))]
    go_end0
    refine ⟨rfl, ?_, ?_⟩
    · rw [HT.out]
      refine Wr.kept (w := w.setCell ⟨g, need n 64 - 1, none⟩ (.int .u64 ((x &&& (2 ^ (n % 64) - 1) : Nat) : Int))) (Wr.set ⟨hl', hb'.out, .inr ⟨g, rfl, hbg, HG.out⟩⟩ (Nat.lt_of_le_of_lt Nat.and_le_left hxl)) ?_
      intro g' hg'
      cases hg'
      exact Below.heap_alloc _ _ _ (by simp; exact hgl)
    · refine ⟨rfl, rfl, rfl, by simp, fun k hk hne => ?_⟩
      exact (Below.heap_alloc _ _ _ (by simp; exact hk)).trans (Below.heap_setCell _ _ _ _ (fun e => hne (by simp [Ytdahnbojnleboaa.T.blk, e])))
  · have h1 : ¬ (0 : Int) < (n : Int) % 64 := by omega
    go_enter Try.func84, Try.ntmps84
    go_wp2
    go_end0
    refine ⟨rfl, ?_, World.grownBy_alloc _ _ _⟩
    rw [trimmed, if_neg h0]
    exact hw.alloc _

end Go.Proofs.Ytdahnbojnleboaa.T
