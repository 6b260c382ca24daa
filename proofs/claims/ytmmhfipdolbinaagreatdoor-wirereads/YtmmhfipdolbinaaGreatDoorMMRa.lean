/- Bits as bytes. Bits of bytes: what each byte lays. -/
import Derived.Test.YtmmhfipdolbinaaGreatDoorMEF
namespace Go.Proofs.YtmmhfipdolbinaaGreatDoor
open Go.RowKit
set_option maxRecDepth 100000
attribute [local go_sem] not_any mf_any

def u8s (bs : List Nat) : List Value := bs.map (fun n : Nat => Value.int .u8 (n : Int))
def u8row (bs : List Nat) : Obj := .cells (u8s bs).toArray 5 (0, 0)
/- a text of bytes -/
def txt (bs : List Nat) : ByteArray := strOfNums (bs.map (fun n : Nat => (n : Int)))

theorem make_bytes (m : Nat) (hm : m ≤ 4194304) (w : World) : (Instr.makeSlice 119 (.int .i64 (m : Int)) (.int .i64 (m : Int))).run Tryz.prog w = .ok (.slice (some ⟨w.heap.size, 0, none⟩) m m) (w.alloc (u8row (List.replicate m 0))) := by
  have hi : (Tryz.prog.info? 5).map (fun i => (i.zero, i.size, i.bytes)) = some (some (.int .u8 0), 1, 1) := by kernel_rfl
  obtain ⟨i0, hi, hz0, hz1, hz2⟩ := info_parts hi
  have h := run_make (P := Tryz.prog) w 119 5 i0 _ Tryz.underlying119 hi hz0 .i64 .i64 (m : Int) (m : Int) (by omega) (by omega) (by rw [hz2]; omega) (by omega)
  rw [h, hz1]
  have e : madeCells (Value.int IntKind.u8 0).cells ((m : Int).toNat * 1) = (u8s (List.replicate m 0)).toArray := by
    apply Array.ext
    · simp [madeCells, u8s]
    · intro j h1 h2
      simp [madeCells, u8s, Value.cells, Nat.mod_one]
  rw [e]
  rfl

theorem u8_cell {w : World} {g j x : Nat} {bs : List Nat} (h : w.heap[g]? = some (u8row bs)) (hj : bs[j]? = some x) : w.cell? ⟨g, j, none⟩ = some (.int .u8 (x : Int)) := by
  rw [cell_of_row w g j _ 5 (0, 0) h]
  simp [u8s, hj]

theorem u8set {w : World} {g j x : Nat} {bs : List Nat} (h : w.heap[g]? = some (u8row bs)) : (w.setCell ⟨g, j, none⟩ (.int .u8 (x : Int))).heap[g]? = some (u8row (bs.set j x)) := by
  rw [heap_setCell_same w g j _ 5 _ h]
  unfold u8row u8s
  congr 1
  simp

theorem text_of {w : World} {g n c : Nat} {bs : List Nat} (hl : bs.length = n) (hc : ∀ (j x : Nat), bs[j]? = some x → w.cell? ⟨g, j, none⟩ = some (.int .u8 (x : Int))) :
    (convert 119 9 (.slice (some ⟨g, 0, none⟩) n c)).run Tryz.prog w = .ok (.string (txt bs)) w := by
  refine run_convert_bytes_arg (P := Tryz.prog) w 119 5 Tryz.underlying119 Tryz.underlying5 g 0 n c (bs.map (fun n : Nat => (n : Int))) (by simp [hl]) ?_ 9 Tryz.underlying9
  intro i hi
  obtain ⟨x, hx⟩ : ∃ x, bs[i]? = some x := ⟨_, List.getElem?_eq_getElem (by omega)⟩
  rw [Nat.zero_add, hc i x hx, List.getD_eq_getElem?_getD, List.getElem?_map, hx]
  rfl

/- the first k chunks told, the others 0 -/
def chunkTo (s : Nat) (l : List Bool) (k : Nat) : List Nat := (List.range (need l.length s)).map (fun i => if i < k then chunk s l i else 0)
theorem chunkTo_zero (s : Nat) (l : List Bool) : chunkTo s l 0 = List.replicate (need l.length s) 0 := by
  apply List.ext_getElem
  · simp [chunkTo]
  · intro j h1 h2
    simp [chunkTo]
theorem chunkTo_all {s : Nat} {l : List Bool} {k : Nat} (h : need l.length s ≤ k) : chunkTo s l k = chunks s l := by
  apply List.ext_getElem
  · simp [chunkTo, chunks]
  · intro j h1 h2
    have : j < k := by simp [chunkTo] at h1; omega
    simp [chunkTo, chunks, this]
theorem chunkTo_length (s : Nat) (l : List Bool) (k : Nat) : (chunkTo s l k).length = need l.length s := by simp [chunkTo]
theorem chunkTo_succ {s : Nat} (l : List Bool) {k : Nat} : chunkTo s l (k + 1) = (chunkTo s l k).set k (chunk s l k) := by
  apply List.ext_getElem
  · simp [chunkTo]
  · intro j h1 h2
    rw [List.getElem_set]
    simp only [chunkTo, List.getElem_map, List.getElem_range]
    by_cases hj : k = j
    · subst hj
      simp
    · have : (j < k + 1) ↔ j < k := by omega
      simp [hj, this]

theorem byte_of_word (l : List Bool) (i : Nat) : chunk 64 l (i / 8) / 2 ^ (8 * (i % 8)) % 256 = chunk 8 l i := by
  apply Nat.eq_of_testBit_eq
  intro j
  rw [show 256 = 2 ^ 8 by rfl, Nat.testBit_mod_two_pow, Nat.testBit_div_two_pow, chunk_testBit, chunk_testBit]
  by_cases hj : j < 8
  · have h1 : j + 8 * (i % 8) < 64 := by omega
    have h2 : 64 * (i / 8) + (j + 8 * (i % 8)) = 8 * i + j := by omega
    rw [h2]
    simp [hj, h1]
  · simp [hj]

set_option maxHeartbeats 2000000 in
theorem bytes_any (b : Nat) (w : World) (n : Nat) (a : Option Addr) (l : List Bool) (hv : Vc b w n a l) (hn : n ≤ 4194304) :
    Calls Tryz.prog 75 #[.agg #[.int .i64 n, .slice a (need n 64) (need n 64)]] w fun e w' => e = .returned (.string (txt (chunks 8 l))) ∧ Below w.heap.size w w' := by
  have hN := fun w => hide1 (needed_any n 8 w hn (.inl rfl))
  have hmk := make_bytes (need n 8) (by rw [need8]; omega)
  have hP := fun k w h => hide1 (bytePlace_any k w h)
  have HV := hide1 hv
  have hm : need n 8 ≤ 524288 := by rw [need8]; omega
  clear hv
  go_enter Tryz.func75, Tryz.ntmps75
  go_wp2_with (first | (go_at_call 80; refine (hN _).out.mono ?_; rintro e w' ⟨rfl, rfl⟩))
  clear hmk hN
  go_loopw [13] (fun i wr => ∃ k : Nat, k ≤ need n 8 ∧ i = .int .i64 k ∧ wr.heap[w.heap.size + 1]? = some (u8row (chunkTo 8 l k)) ∧ wr.heap[w.heap.size]? = some (.cells #[.int .i64 n, .slice a (need n 64) (need n 64)] 60 (0, 0)) ∧ Below w.heap.size w wr) (fun i _ => need n 8 - (intOf i).toNat)
  case atStart =>
    refine ⟨0, Nat.zero_le _, rfl, ?_, heap_alloc2_old _ _ _, ((Below.refl _ _).alloc (Nat.le_refl _) _).alloc (by simp) _⟩
    rw [chunkTo_zero, HV.out.len]
    exact heap_alloc2_new _ _ _
  case round =>
    obtain ⟨k, hk, rfl, hr, hx, hB⟩ := hrel
    by_cases hlt : k < need n 8
    · have hk8 : k / 8 < need n 64 := by rw [need8] at hlt; rw [need64]; omega
      obtain ⟨g, rfl, _, hg, hc⟩ := (HV.out.below hB (Nat.le_refl _)).cell hk8
      have hPk := fun w => hP k w (by omega)
      obtain ⟨d0, d1, _, _, l1⟩ := box2 hx
      obtain ⟨y, hy⟩ : ∃ y, (chunkTo 8 l k)[k]? = some y := ⟨_, List.getElem?_eq_getElem (by rw [chunkTo_length, HV.out.len]; exact hlt)⟩
      have hcc := u8_cell hr hy
      have hfz := frozen_of_row wr (w.heap.size + 1) k _ _ hr
      have HR := hide1 hr
      have HX := hide1 hx
      have HBy := hide1 (byte_of_word l k)
      have hk0 : (0 : Int) ≤ ((k / 8 : Nat) : Int) := by omega
      have hk1 : ((k / 8 : Nat) : Int) < (need n 64 : Int) := by omega
      clear hr hx hg hy hP
      go_wp2_with (first | (go_at_call 81; refine (hPk _).out.mono ?_; rintro e w' ⟨rfl, rfl⟩))
      have HI : ((chunk 64 l (k / 8) : Nat) : Int) / 2 ^ (8 * (k % 8)) % 256 = ((chunk 8 l k : Nat) : Int) := by
        rw [← HBy.out, pow_cast]
        rfl
      rw [HI]
      refine ⟨⟨k + 1, by omega, by go_num, ?_, ?_, ?_⟩, by simp [intOf]; omega⟩
      · rw [chunkTo_succ]
        exact u8set HR.out
      · exact (Below.heap_setCell _ _ _ _ (by simp)).trans HX.out
      · exact hB.setCell (by simp) _
    · have : k = need n 8 := by omega
      subst this
      have hcv := text_of (w := wr) (g := w.heap.size + 1) (n := need n 8) (c := need n 8) (bs := chunks 8 l) (by rw [chunks_length, HV.out.len]) (fun j x hj => u8_cell (by rw [hr, chunkTo_all (by rw [HV.out.len]; exact Nat.le_refl _)]) hj)
      go_wp2
      go_ret
      exact ⟨rfl, hB⟩

end Go.Proofs.YtmmhfipdolbinaaGreatDoor

namespace Go.Proofs.YtmmhfipdolbinaaGreatDoor
open Go.RowKit
set_option maxRecDepth 100000

/- the numbers of a text's bytes, and its first n bits -/
def nums (s : ByteArray) : List Nat := s.data.toList.map (fun b => b.toNat)
def rbits (n : Nat) (s : ByteArray) : List Bool := (List.range n).map (fun i => ((nums s).getD (i / 8) 0).testBit (i % 8))

theorem nums_length (s : ByteArray) : (nums s).length = s.size := by
  rw [nums, List.length_map]
  exact Array.length_toList
theorem nums_lt {s : ByteArray} {k x : Nat} (h : (nums s)[k]? = some x) : x < 256 := by
  simp only [nums, List.getElem?_map, Option.map_eq_some_iff] at h
  obtain ⟨b, _, rfl⟩ := h
  exact b.toNat_lt
theorem rbits_length (n : Nat) (s : ByteArray) : (rbits n s).length = n := by simp [rbits]
theorem rbits_getD {n : Nat} {s : ByteArray} {i : Nat} (h : i < n) : (rbits n s).getD i false = ((nums s).getD (i / 8) 0).testBit (i % 8) := by
  rw [List.getD_eq_getElem?_getD]
  simp [rbits, h]

theorem txt_nums (s : ByteArray) : txt (nums s) = s := by
  have e : (nums s).map (fun n : Nat => UInt8.ofNat ((n : Int).toNat)) = s.data.toList := by
    simp only [nums, List.map_map]
    conv => rhs; rw [← List.map_id s.data.toList]
    apply List.map_congr_left
    intro b _
    simp
  cases s with
  | mk d =>
    simp only [txt, strOfNums, List.map_map]
    congr 1
    have := congrArg List.toArray e
    simpa [Function.comp_def] using this

/- nothing stands behind the last bit -/
def Clean (n : Nat) (s : ByteArray) : Prop := ∀ (k x : Nat), (nums s)[k]? = some x → ∀ j, j < 8 → n ≤ 8 * k + j → x.testBit j = false

theorem byte_bits {n : Nat} {s : ByteArray} (hc : Clean n s) {k x : Nat} (h : (nums s)[k]? = some x) {j : Nat} (hj : j < 8) : x.testBit j = (rbits n s).getD (8 * k + j) false := by
  by_cases hn : 8 * k + j < n
  · rw [rbits_getD hn, Nat.mul_add_div (by omega), Nat.mul_add_mod, Nat.div_eq_of_lt hj, Nat.mod_eq_of_lt hj, Nat.add_zero, List.getD_eq_getElem?_getD, h]
    rfl
  · rw [hc k x h j hj (by omega), List.getD_eq_getElem?_getD, List.getElem?_eq_none (by rw [rbits_length]; omega)]
    rfl

theorem chunks_rbits {n : Nat} {s : ByteArray} (hc : Clean n s) (hl : s.size = need n 8) : chunks 8 (rbits n s) = nums s := by
  symm
  apply chunks_ext (by rw [nums_length, rbits_length, hl])
  intro k x hx
  exact ⟨nums_lt hx, fun j hj => byte_bits hc hx hj⟩

theorem chunks_or_byte (l : List Bool) (k y : Nat) (hy : y < 256) (_hk : 8 * k < l.length) (h : ∀ j, j < 8 → y.testBit j = l.getD (8 * k + j) false) :
    chunks 64 (firsts l (8 * (k + 1))) = (chunks 64 (firsts l (8 * k))).set (k / 8) (chunk 64 (firsts l (8 * k)) (k / 8) ||| y * 2 ^ (8 * (k % 8))) := by
  symm
  apply chunks_ext (by rw [List.length_set, chunks_length, firsts_length, firsts_length])
  intro q x hx
  rw [List.getElem?_set] at hx
  have hb : y * 2 ^ (8 * (k % 8)) < 2 ^ 64 := by
    have h1 : 2 ^ (8 * (k % 8)) ≤ 2 ^ 56 := Nat.pow_le_pow_right (by omega) (by omega)
    have h2 : y * 2 ^ (8 * (k % 8)) ≤ 255 * 2 ^ 56 := Nat.mul_le_mul (by omega) h1
    have h3 : 255 * 2 ^ 56 < (2 : Nat) ^ 64 := by decide
    omega
  by_cases hq : k / 8 = q
  · rw [if_pos hq] at hx
    split at hx
    · cases hx
      refine ⟨Nat.or_lt_two_pow (chunk_lt _ _ _) hb, fun j hj => ?_⟩
      rw [Nat.testBit_or, chunk_testBit, firsts_getD, firsts_getD, Nat.mul_comm y, Nat.testBit_two_pow_mul]
      have e8 : 8 * k = 64 * q + 8 * (k % 8) := by omega
      by_cases h1 : j < 8 * (k % 8)
      · have a1 : 64 * q + j < 8 * k := by omega
        have a2 : 64 * q + j < 8 * (k + 1) := by omega
        have a3 : ¬ 8 * (k % 8) ≤ j := by omega
        rw [hq]
        simp [hj, a1, a2, a3]
      · have a1 : ¬ 64 * (k / 8) + j < 8 * k := by omega
        have a3 : 8 * (k % 8) ≤ j := by omega
        by_cases h2 : j - 8 * (k % 8) < 8
        · have a2 : 64 * q + j < 8 * (k + 1) := by omega
          rw [h _ h2, show 8 * k + (j - 8 * (k % 8)) = 64 * q + j by omega]
          simp [a1, a2, a3]
        · have a2 : ¬ 64 * q + j < 8 * (k + 1) := by omega
          have a4 : y.testBit (j - 8 * (k % 8)) = false := Nat.testBit_lt_two_pow (Nat.lt_of_lt_of_le hy (show 2 ^ 8 ≤ 2 ^ (j - 8 * (k % 8)) from Nat.pow_le_pow_right (by omega) (by omega)))
          simp [a1, a2, a4]
    · cases hx
  · rw [if_neg hq] at hx
    obtain ⟨_, rfl⟩ := chunks_get' hx
    refine ⟨chunk_lt _ _ _, fun j hj => ?_⟩
    rw [chunk_testBit, firsts_getD, firsts_getD]
    have : (64 * q + j < 8 * (k + 1)) ↔ 64 * q + j < 8 * k := by omega
    simp [hj, this]

end Go.Proofs.YtmmhfipdolbinaaGreatDoor
