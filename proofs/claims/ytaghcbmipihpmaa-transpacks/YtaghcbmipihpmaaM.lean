/- Bits as bytes. -/
import Derived.Test.YtaghcbmipihpmaaF
namespace Go.Proofs.Ytaghcbmipihpmaa
open Go.RowKit
set_option maxRecDepth 100000
attribute [local go_sem] not_any mf_any

def u8s (bs : List Nat) : List Value := bs.map (fun n : Nat => Value.int .u8 (n : Int))
def u8row (bs : List Nat) : Obj := .cells (u8s bs).toArray 5 (0, 0)
/- a text of bytes -/
def txt (bs : List Nat) : ByteArray := strOfNums (bs.map (fun n : Nat => (n : Int)))

theorem make_bytes (m : Nat) (hm : m ≤ 4194304) (w : World) : (Instr.makeSlice 71 (.int .i64 (m : Int)) (.int .i64 (m : Int))).run Try.prog w = .ok (.slice (some ⟨w.heap.size, 0, none⟩) m m) (w.alloc (u8row (List.replicate m 0))) := by
  have hi : (Try.prog.info? 5).map (fun i => (i.zero, i.size, i.bytes)) = some (some (.int .u8 0), 1, 1) := by kernel_rfl
  obtain ⟨i0, hi, hz0, hz1, hz2⟩ := info_parts hi
  have h := run_make (P := Try.prog) w 71 5 i0 _ Try.underlying71 hi hz0 .i64 .i64 (m : Int) (m : Int) (by omega) (by omega) (by rw [hz2]; omega) (by omega)
  rw [h, hz1]
  have e : madeCells (Value.int IntKind.u8 0).cells ((m : Int).toNat * 1) = (u8s (List.replicate m 0)).toArray := by
    apply Array.ext
    · simp [madeCells, u8s]
    · intro j h1 h2
      simp [madeCells, u8s, Value.cells, Nat.mod_one]
  rw [e]
  rfl

theorem u8_cell {w : World} {g j x : Nat} {bs : List Nat} (h : w.heap[g]? = some (u8row bs)) (hj : bs[j]? = some x) : w.cell? ⟨g, j, none⟩ = some (.int .u8 (x : Int)) := by
  rw [cell_of_row w g j _ 5 (0, 0) h]
  simp [u8s, hj]

theorem u8set {w : World} {g j x : Nat} {bs : List Nat} (h : w.heap[g]? = some (u8row bs)) : (w.setCell ⟨g, j, none⟩ (.int .u8 (x : Int))).heap[g]? = some (u8row (bs.set j x)) := by
  rw [heap_setCell_same w g j _ 5 _ h]
  unfold u8row u8s
  congr 1
  simp

theorem text_of {w : World} {g n c : Nat} {bs : List Nat} (hl : bs.length = n) (hc : ∀ (j x : Nat), bs[j]? = some x → w.cell? ⟨g, j, none⟩ = some (.int .u8 (x : Int))) :
    (convert 71 9 (.slice (some ⟨g, 0, none⟩) n c)).run Try.prog w = .ok (.string (txt bs)) w := by
  refine run_convert_bytes_arg (P := Try.prog) w 71 5 Try.underlying71 Try.underlying5 g 0 n c (bs.map (fun n : Nat => (n : Int))) (by simp [hl]) ?_ 9 Try.underlying9
  intro i hi
  obtain ⟨x, hx⟩ : ∃ x, bs[i]? = some x := ⟨_, List.getElem?_eq_getElem (by omega)⟩
  rw [Nat.zero_add, hc i x hx, List.getD_eq_getElem?_getD, List.getElem?_map, hx]
  rfl

/- the first k chunks told, the others 0 -/
def chunkTo (s : Nat) (l : List Bool) (k : Nat) : List Nat := (List.range (need l.length s)).map (fun i => if i < k then chunk s l i else 0)
theorem chunkTo_zero (s : Nat) (l : List Bool) : chunkTo s l 0 = List.replicate (need l.length s) 0 := by
  apply List.ext_getElem
  · simp [chunkTo]
  · intro j h1 h2
    simp [chunkTo]
theorem chunkTo_all {s : Nat} {l : List Bool} {k : Nat} (h : need l.length s ≤ k) : chunkTo s l k = chunks s l := by
  apply List.ext_getElem
  · simp [chunkTo, chunks]
  · intro j h1 h2
    have : j < k := by simp [chunkTo] at h1; omega
    simp [chunkTo, chunks, this]
theorem chunkTo_length (s : Nat) (l : List Bool) (k : Nat) : (chunkTo s l k).length = need l.length s := by simp [chunkTo]
theorem chunkTo_succ {s : Nat} (l : List Bool) {k : Nat} : chunkTo s l (k + 1) = (chunkTo s l k).set k (chunk s l k) := by
  apply List.ext_getElem
  · simp [chunkTo]
  · intro j h1 h2
    rw [List.getElem_set]
    simp only [chunkTo, List.getElem_map, List.getElem_range]
    by_cases hj : k = j
    · subst hj
      simp
    · have : (j < k + 1) ↔ j < k := by omega
      simp [hj, this]

theorem byte_of_word (l : List Bool) (i : Nat) : chunk 64 l (i / 8) / 2 ^ (8 * (i % 8)) % 256 = chunk 8 l i := by
  apply Nat.eq_of_testBit_eq
  intro j
  rw [show 256 = 2 ^ 8 by rfl, Nat.testBit_mod_two_pow, Nat.testBit_div_two_pow, chunk_testBit, chunk_testBit]
  by_cases hj : j < 8
  · have h1 : j + 8 * (i % 8) < 64 := by omega
    have h2 : 64 * (i / 8) + (j + 8 * (i % 8)) = 8 * i + j := by omega
    rw [h2]
    simp [hj, h1]
  · simp [hj]

set_option maxHeartbeats 2000000 in
theorem bytes_any (b : Nat) (w : World) (n : Nat) (a : Option Addr) (l : List Bool) (hv : Vc b w n a l) (hn : n ≤ 4194304) :
    Calls Try.prog 35 #[.agg #[.int .i64 n, .slice a (need n 64) (need n 64)]] w fun e w' => e = .returned (.string (txt (chunks 8 l))) ∧ Below w.heap.size w w' := by
  have hN := fun w => hide1 (needed_any n 8 w hn (.inl rfl))
  have hmk := make_bytes (need n 8) (by rw [need8]; omega)
  have hP := fun k w h => hide1 (bytePlace_any k w h)
  have HV := hide1 hv
  have hm : need n 8 ≤ 524288 := by rw [need8]; omega
  clear hv
  go_enter Try.func35, Try.ntmps35
  go_wp2_with (first | (go_at_call 45; refine (hN _).out.mono ?_; rintro e w' ⟨rfl, rfl⟩))
  clear hmk hN
  go_loopw [13] (fun i wr => ∃ k : Nat, k ≤ need n 8 ∧ i = .int .i64 k ∧ wr.heap[w.heap.size + 1]? = some (u8row (chunkTo 8 l k)) ∧ wr.heap[w.heap.size]? = some (.cells #[.int .i64 n, .slice a (need n 64) (need n 64)] 32 (0, 0)) ∧ Below w.heap.size w wr) (fun i _ => need n 8 - (intOf i).toNat)
  case atStart =>
    refine ⟨0, Nat.zero_le _, rfl, ?_, heap_alloc2_old _ _ _, ((Below.refl _ _).alloc (Nat.le_refl _) _).alloc (by simp) _⟩
    rw [chunkTo_zero, HV.out.len]
    exact heap_alloc2_new _ _ _
  case round =>
    obtain ⟨k, hk, rfl, hr, hx, hB⟩ := hrel
    by_cases hlt : k < need n 8
    · have hk8 : k / 8 < need n 64 := by rw [need8] at hlt; rw [need64]; omega
      obtain ⟨g, rfl, _, hg, hc⟩ := (HV.out.below hB (Nat.le_refl _)).cell hk8
      have hPk := fun w => hP k w (by omega)
      obtain ⟨d0, d1, _, _, l1⟩ := box2 hx
      obtain ⟨y, hy⟩ : ∃ y, (chunkTo 8 l k)[k]? = some y := ⟨_, List.getElem?_eq_getElem (by rw [chunkTo_length, HV.out.len]; exact hlt)⟩
      have hcc := u8_cell hr hy
      have hfz := frozen_of_row wr (w.heap.size + 1) k _ _ hr
      have HR := hide1 hr
      have HX := hide1 hx
      have HBy := hide1 (byte_of_word l k)
      have hk0 : (0 : Int) ≤ ((k / 8 : Nat) : Int) := by omega
      have hk1 : ((k / 8 : Nat) : Int) < (need n 64 : Int) := by omega
      clear hr hx hg hy hP
      go_wp2_with (first | (go_at_call 53; refine (hPk _).out.mono ?_; rintro e w' ⟨rfl, rfl⟩))
      have HI : ((chunk 64 l (k / 8) : Nat) : Int) / 2 ^ (8 * (k % 8)) % 256 = ((chunk 8 l k : Nat) : Int) := by
        rw [← HBy.out, pow_cast]
        rfl
      rw [HI]
      refine ⟨⟨k + 1, by omega, by go_num, ?_, ?_, ?_⟩, by simp [intOf]; omega⟩
      · rw [chunkTo_succ]
        exact u8set HR.out
      · exact (Below.heap_setCell _ _ _ _ (by simp)).trans HX.out
      · exact hB.setCell (by simp) _
    · have : k = need n 8 := by omega
      subst this
      have hcv := text_of (w := wr) (g := w.heap.size + 1) (n := need n 8) (c := need n 8) (bs := chunks 8 l) (by rw [chunks_length, HV.out.len]) (fun j x hj => u8_cell (by rw [hr, chunkTo_all (by rw [HV.out.len]; exact Nat.le_refl _)]) hj)
      go_wp2
      go_ret
      exact ⟨rfl, hB⟩

end Go.Proofs.Ytaghcbmipihpmaa
