/- Bits copied: Raw, With, Bools. Bits told anew: Raw, With, Bools. Bits as bytes. -/
import Derived.Test.YtlkkninnfiaedaaDoorJ36
import Derived.Laws.CopyRow
namespace Go.Proofs.YtlkkninnfiaedaaDoor.T
open Go.RowKit
set_option maxRecDepth 100000
attribute [local go_sem] not_any mf_any

theorem size55 : (Tryd.prog.info? 22).map (·.size) = some 1 := by kernel_rfl

theorem addr_add (g o j : Nat) : (⟨g, o, none⟩ : Addr).add j = ⟨g, o + j, none⟩ := by unfold Addr.add; split <;> simp_all

theorem u64s_one (ws : List Nat) : ∀ v ∈ u64s ws, v.oneCell' = true := by
  intro v hv
  simp [u64s] at hv
  obtain ⟨x, _, rfl⟩ := hv
  rfl

theorem copy_words {W : World} {g gs m : Nat} {ws cur : List Nat} (hg : W.heap[g]? = some (wrow cur)) (hgs : W.heap[gs]? = some (wrow ws)) (h1 : cur.length = m) (h2 : ws.length = m) :
    (Builtin.copy_ #[39, 39] 3 #[.slice (some ⟨g, 0, none⟩) m m, .slice (some ⟨gs, 0, none⟩) m m]).run Tryd.prog W = .ok (goInt m) (W.setRow g (u64s ws).toArray) := by
  have h := run_copy_row (P := Tryd.prog) W 39 39 3 22 g 0 m m ⟨gs, 0, none⟩ m m (u64s cur).toArray 22 (u64s ws) Tryd.underlying39 size55 hg (by simp [u64s, h2]) (by
    intro j v hv
    rw [addr_add, Nat.zero_add, cell_of_row W gs j _ 22 (0, 0) hgs]
    simpa using hv) (by simp [u64s, h1, h2]) (u64s_one ws)
  rw [h]
  have e : (u64s ws).length = m := by simp [u64s, h2]
  rw [e]
  congr 2
  simp [u64s, h1]

theorem copy_nothing {W : World} (d a : Option Addr) : (Builtin.copy_ #[39, 39] 3 #[.slice d 0 0, .slice a 0 0]).run Tryd.prog W = .ok (goInt 0) W :=
  run_copy_none (P := Tryd.prog) W 39 39 3 22 d a 0 0 0 0 Tryd.underlying39 size55 rfl

theorem copy_vec {b b' : Nat} {W : World} {n : Nat} {a av : Option Addr} {l l0 : List Bool} (hs : Vc b W n a l) (hd : Vc b' W n av l0) :
    ∃ W', (Builtin.copy_ #[39, 39] 3 #[.slice av (need n 64) (need n 64), .slice a (need n 64) (need n 64)]).run Tryd.prog W = .ok (goInt (need n 64)) W' ∧ Vc b' W' n av l ∧ W.grownBy W' (blk av) := by
  by_cases h0 : n = 0
  · subst h0
    have hl : l = [] := List.eq_nil_of_length_eq_zero hs.len
    have hl0 : l0 = [] := List.eq_nil_of_length_eq_zero hd.len
    subst hl hl0
    exact ⟨W, copy_nothing av a, hd, ⟨rfl, rfl, rfl, Nat.le_refl _, fun _ _ _ => rfl⟩⟩
  · have hp : 0 < need n 64 := by rw [need64]; omega
    obtain ⟨gs, rfl, _, hgs, _⟩ := hs.cell hp
    obtain ⟨g, rfl, hb, hg, _⟩ := hd.cell hp
    refine ⟨_, copy_words hg hgs (by rw [chunks_length, hd.len]) (by rw [chunks_length, hs.len]), ⟨hs.len, .inr ⟨g, rfl, hb, setRow_heap W g _ _ _ _ hg⟩⟩, ⟨rfl, rfl, rfl, by simp, fun k _ hk => setRow_other W g k _ (fun e => hk (by simp [blk, e]))⟩⟩

theorem after2 {w w1 : World} {o1 o2 : Obj} (hb : Below ((w.alloc o1).alloc o2).heap.size ((w.alloc o1).alloc o2) w1) :
    w1.heap[w.heap.size]? = some o1 ∧ w1.heap[w.heap.size + 1]? = some o2 ∧ Below w.heap.size w w1 :=
  ⟨(hb.block _ (by simp; omega)).trans (heap_alloc2_old _ _ _), (hb.block _ (by simp)).trans (heap_alloc2_new _ _ _), (((Below.refl _ _).alloc (Nat.le_refl _) _).alloc (by simp) _).trans (hb.mono (by simp; omega))⟩

set_option maxHeartbeats 1000000 in
theorem copied_any (b : Nat) (w : World) (n : Nat) (a : Option Addr) (l : List Bool) (hv : Vc b w n a l) (hn : n ≤ 4194304) :
    Calls Tryd.prog 111 #[.agg #[.int .i64 n, .slice a (need n 64) (need n 64)]] w fun e w' => ∃ a', e = .returned (.agg #[.int .i64 n, .slice a' (need n 64) (need n 64)]) ∧ Vc w.heap.size w' n a' l ∧ Below w.heap.size w w' := by
  have hB := fun w => hide1 (blank_any n w hn)
  have HV := hide1 hv
  clear hv
  go_enter Tryd.func111, Tryd.ntmps111
  go_wp2_with (first | (go_at_call 58; refine (hB _).out.mono ?_; rintro e w1 ⟨av, rfl, hv1, hb⟩; obtain ⟨hx1, hx2, hbw⟩ := after2 hb; obtain ⟨c0, c1, _, _, l1⟩ := box2 hx1; obtain ⟨W', hcp, hV', hgr⟩ := copy_vec ((HV.out.below hbw (Nat.le_refl _)).alloc (.cells #[.int .i64 n, .slice av (need n 64) (need n 64)] 41)) (hv1.alloc _); have hk := hide1 hv1.blk; have HV' := hide1 hV'; have HX := hide1 hx2; have HX1 := hide1 hx1; clear hv1 hV' hx2 hx1; have q1 := (box2 ((hgr.block w1.heap.size (by simp) (fun e => by have := hk.out _ e.symm; omega)).trans (heap_alloc_new _ _))); have q2 := hide1 ((hgr.block (w.heap.size + 1) (by have := lt_heap HX.out; simp; omega) (fun e => by have := hk.out _ e.symm; simp at this; omega)).trans ((Below.heap_alloc _ _ _ (lt_heap HX.out)).trans HX.out)); have q3 := box2 q2.out; obtain ⟨s0, s1, _, _, lt1⟩ := q1; obtain ⟨t0, t1, t2, t3, lt2⟩ := q3))
  refine ret_vec Tryd.results111 (w.heap.size + 1) _ _ rfl (set_box2 q2.out) rfl ⟨_, rfl, ?_, ?_⟩
  · exact ((HV'.out.setCell (by simp) _).setCell (by simp) _).mono (by simp; omega)
  · exact (((hbw.alloc (by have := hbw.size; omega) _).grown hgr (by have := hbw.size; simp; omega) (fun k hk' => by have := hk.out k hk'; simp at this; omega)).setCell (by simp) _).setCell (by simp) _

end Go.Proofs.YtlkkninnfiaedaaDoor.T

namespace Go.Proofs.YtlkkninnfiaedaaDoor.T
open Go.RowKit
set_option maxRecDepth 100000
theorem field_words (x : Value) (a : Option Addr) (n c : Nat) (w : World) : (Instr.field 41 (.agg #[x, .slice a n c]) 1).run Tryd.prog w = .ok (.slice a n c) w := by kernel_rfl
attribute [local go_sem] not_any mf_any field_words

theorem after3 {w w1 : World} {o1 o2 o3 : Obj} (hb : Below (((w.alloc o1).alloc o2).alloc o3).heap.size (((w.alloc o1).alloc o2).alloc o3) w1) :
    w1.heap[w.heap.size]? = some o1 ∧ w1.heap[w.heap.size + 1]? = some o2 ∧ w1.heap[w.heap.size + 2]? = some o3 ∧ Below w.heap.size w w1 := by
  have h := after2 (w := w.alloc o1) hb
  simp at h
  refine ⟨?_, h.1, h.2.1, ?_⟩
  · exact (hb.block _ (by simp; omega)).trans ((Below.heap_alloc _ _ _ (by simp; omega)).trans (heap_alloc2_old _ _ _))
  · exact ((Below.refl _ _).alloc (Nat.le_refl _) _).trans (h.2.2.mono (by omega))

theorem raw_any (b : Nat) (w : World) (n : Nat) (a : Option Addr) (l : List Bool) (hv : Vc b w n a l) (hn : n ≤ 4194304) :
    Calls Tryd.prog 91 #[.agg #[.int .i64 n, .slice a (need n 64) (need n 64)]] w fun e w' => ∃ a', e = .returned (.slice a' (need n 64) (need n 64)) ∧ Vc w.heap.size w' n a' l ∧ Below w.heap.size w w' := by
  have hC := fun w h => hide1 (copied_any b w n a l h hn)
  have HV := hide1 hv
  clear hv
  go_enter Tryd.func91, Tryd.ntmps91
  go_wp2_with (first | (go_at_call 111; refine (hC _ (HV.out.alloc _)).out.mono ?_; rintro e w1 ⟨av, rfl, hv1, hb⟩))
  go_ret
  exact ⟨_, rfl, hv1.mono (by simp), below_after hb⟩

def brow (l : List Bool) : Obj := .cells (bools l).toArray 4 (0, 0)

theorem make_bools (m : Nat) (hm : m ≤ 4194304) (w : World) : (Instr.makeSlice 53 (.int .i64 (m : Int)) (.int .i64 (m : Int))).run Tryd.prog w = .ok (.slice (some ⟨w.heap.size, 0, none⟩) m m) (w.alloc (brow (List.replicate m false))) := by
  have hi : (Tryd.prog.info? 4).map (fun i => (i.zero, i.size, i.bytes)) = some (some (.bool false), 1, 1) := by kernel_rfl
  obtain ⟨i0, hi, hz0, hz1, hz2⟩ := info_parts hi
  have h := run_make (P := Tryd.prog) w 53 4 i0 _ Tryd.underlying53 hi hz0 .i64 .i64 (m : Int) (m : Int) (by omega) (by omega) (by rw [hz2]; omega) (by omega)
  rw [h, hz1]
  have e : madeCells (Value.bool false).cells ((m : Int).toNat * 1) = (bools (List.replicate m false)).toArray := by
    apply Array.ext
    · simp [madeCells, bools]
    · intro j h1 h2
      simp [madeCells, bools, Value.cells, Nat.mod_one]
  rw [e]
  rfl

theorem brow_cell {w : World} {g j : Nat} {x : Bool} {l : List Bool} (h : w.heap[g]? = some (brow l)) (hj : l[j]? = some x) : w.cell? ⟨g, j, none⟩ = some (.bool x) := by
  rw [cell_of_row w g j _ 4 (0, 0) h]
  simp [bools, hj]

theorem bset {w : World} {g j : Nat} {x : Bool} {l : List Bool} (h : w.heap[g]? = some (brow l)) : (w.setCell ⟨g, j, none⟩ (.bool x)).heap[g]? = some (brow (l.set j x)) := by
  rw [heap_setCell_same w g j _ 4 _ h]
  unfold brow bools
  congr 2
  simp

theorem bl_of_row {w : World} {g : Nat} {l : List Bool} (h : w.heap[g]? = some (brow l)) : Bl w l.length (some ⟨g, 0, none⟩) l :=
  ⟨rfl, fun j x hj => ⟨g, 0, rfl, by rw [Nat.zero_add]; exact brow_cell h hj⟩⟩

theorem andNot_pow {x j : Nat} (hx : x < 18446744073709551616) (hj : j < 64) : bits .andNot .u64 (x : Int) (2 ^ j) = ((x &&& (2 ^ 64 - 1 - 2 ^ j) : Nat) : Int) := by
  rw [pow_cast, u64_andNot_nat _ _ hx (pow_lt hj)]

end Go.Proofs.YtlkkninnfiaedaaDoor.T

namespace Go.Proofs.YtlkkninnfiaedaaDoor.T
open Go.RowKit
set_option maxRecDepth 100000
attribute [local go_sem] not_any mf_any

def u8s (bs : List Nat) : List Value := bs.map (fun n : Nat => Value.int .u8 (n : Int))
def u8row (bs : List Nat) : Obj := .cells (u8s bs).toArray 5 (0, 0)
/- a text of bytes -/
def txt (bs : List Nat) : ByteArray := strOfNums (bs.map (fun n : Nat => (n : Int)))

theorem make_bytes (m : Nat) (hm : m ≤ 4194304) (w : World) : (Instr.makeSlice 80 (.int .i64 (m : Int)) (.int .i64 (m : Int))).run Tryd.prog w = .ok (.slice (some ⟨w.heap.size, 0, none⟩) m m) (w.alloc (u8row (List.replicate m 0))) := by
  have hi : (Tryd.prog.info? 5).map (fun i => (i.zero, i.size, i.bytes)) = some (some (.int .u8 0), 1, 1) := by kernel_rfl
  obtain ⟨i0, hi, hz0, hz1, hz2⟩ := info_parts hi
  have h := run_make (P := Tryd.prog) w 80 5 i0 _ Tryd.underlying80 hi hz0 .i64 .i64 (m : Int) (m : Int) (by omega) (by omega) (by rw [hz2]; omega) (by omega)
  rw [h, hz1]
  have e : madeCells (Value.int IntKind.u8 0).cells ((m : Int).toNat * 1) = (u8s (List.replicate m 0)).toArray := by
    apply Array.ext
    · simp [madeCells, u8s]
    · intro j h1 h2
      simp [madeCells, u8s, Value.cells, Nat.mod_one]
  rw [e]
  rfl

theorem u8_cell {w : World} {g j x : Nat} {bs : List Nat} (h : w.heap[g]? = some (u8row bs)) (hj : bs[j]? = some x) : w.cell? ⟨g, j, none⟩ = some (.int .u8 (x : Int)) := by
  rw [cell_of_row w g j _ 5 (0, 0) h]
  simp [u8s, hj]

theorem u8set {w : World} {g j x : Nat} {bs : List Nat} (h : w.heap[g]? = some (u8row bs)) : (w.setCell ⟨g, j, none⟩ (.int .u8 (x : Int))).heap[g]? = some (u8row (bs.set j x)) := by
  rw [heap_setCell_same w g j _ 5 _ h]
  unfold u8row u8s
  congr 1
  simp

theorem text_of {w : World} {g n c : Nat} {bs : List Nat} (hl : bs.length = n) (hc : ∀ (j x : Nat), bs[j]? = some x → w.cell? ⟨g, j, none⟩ = some (.int .u8 (x : Int))) :
    (convert 80 9 (.slice (some ⟨g, 0, none⟩) n c)).run Tryd.prog w = .ok (.string (txt bs)) w := by
  refine run_convert_bytes_arg (P := Tryd.prog) w 80 5 Tryd.underlying80 Tryd.underlying5 g 0 n c (bs.map (fun n : Nat => (n : Int))) (by simp [hl]) ?_ 9 Tryd.underlying9
  intro i hi
  obtain ⟨x, hx⟩ : ∃ x, bs[i]? = some x := ⟨_, List.getElem?_eq_getElem (by omega)⟩
  rw [Nat.zero_add, hc i x hx, List.getD_eq_getElem?_getD, List.getElem?_map, hx]
  rfl

/- the first k chunks told, the others 0 -/
def chunkTo (s : Nat) (l : List Bool) (k : Nat) : List Nat := (List.range (need l.length s)).map (fun i => if i < k then chunk s l i else 0)
theorem chunkTo_zero (s : Nat) (l : List Bool) : chunkTo s l 0 = List.replicate (need l.length s) 0 := by
  apply List.ext_getElem
  · simp [chunkTo]
  · intro j h1 h2
    simp [chunkTo]
theorem chunkTo_all {s : Nat} {l : List Bool} {k : Nat} (h : need l.length s ≤ k) : chunkTo s l k = chunks s l := by
  apply List.ext_getElem
  · simp [chunkTo, chunks]
  · intro j h1 h2
    have : j < k := by simp [chunkTo] at h1; omega
    simp [chunkTo, chunks, this]
theorem chunkTo_length (s : Nat) (l : List Bool) (k : Nat) : (chunkTo s l k).length = need l.length s := by simp [chunkTo]
theorem chunkTo_succ {s : Nat} (l : List Bool) {k : Nat} : chunkTo s l (k + 1) = (chunkTo s l k).set k (chunk s l k) := by
  apply List.ext_getElem
  · simp [chunkTo]
  · intro j h1 h2
    rw [List.getElem_set]
    simp only [chunkTo, List.getElem_map, List.getElem_range]
    by_cases hj : k = j
    · subst hj
      simp
    · have : (j < k + 1) ↔ j < k := by omega
      simp [hj, this]

theorem byte_of_word (l : List Bool) (i : Nat) : chunk 64 l (i / 8) / 2 ^ (8 * (i % 8)) % 256 = chunk 8 l i := by
  apply Nat.eq_of_testBit_eq
  intro j
  rw [show 256 = 2 ^ 8 by rfl, Nat.testBit_mod_two_pow, Nat.testBit_div_two_pow, chunk_testBit, chunk_testBit]
  by_cases hj : j < 8
  · have h1 : j + 8 * (i % 8) < 64 := by omega
    have h2 : 64 * (i / 8) + (j + 8 * (i % 8)) = 8 * i + j := by omega
    rw [h2]
    simp [hj, h1]
  · simp [hj]

end Go.Proofs.YtlkkninnfiaedaaDoor.T
