/- Bits as bytes. The document's own answers: words and bytes of truths, and how many are true. The document's own words of truths. The document's own bytes of truths. -/
import Derived.Test.YtdmodknjcdkocaaJ28
import Derived.Test.YtdmodknjcdkocaaJ29
import Derived.Deep.DeepMust
namespace Go.Proofs.Ytdmodknjcdkocaa.T
open Go.RowKit
set_option maxRecDepth 100000
attribute [local go_sem] not_any mf_any

def u8s (bs : List Nat) : List Value := bs.map (fun n : Nat => Value.int .u8 (n : Int))
def u8row (bs : List Nat) : Obj := .cells (u8s bs).toArray 5 (0, 0)
/- a text of bytes -/
def txt (bs : List Nat) : ByteArray := strOfNums (bs.map (fun n : Nat => (n : Int)))

theorem make_bytes (m : Nat) (hm : m ≤ 4194304) (w : World) : (Instr.makeSlice 88 (.int .i64 (m : Int)) (.int .i64 (m : Int))).run Try.prog w = .ok (.slice (some ⟨w.heap.size, 0, none⟩) m m) (w.alloc (u8row (List.replicate m 0))) := by
  have hi : (Try.prog.info? 5).map (fun i => (i.zero, i.size, i.bytes)) = some (some (.int .u8 0), 1, 1) := by kernel_rfl
  obtain ⟨i0, hi, hz0, hz1, hz2⟩ := info_parts hi
  have h := run_make (P := Try.prog) w 88 5 i0 _ Try.underlying88 hi hz0 .i64 .i64 (m : Int) (m : Int) (by omega) (by omega) (by rw [hz2]; omega) (by omega)
  rw [h, hz1]
  have e : madeCells (Value.int IntKind.u8 0).cells ((m : Int).toNat * 1) = (u8s (List.replicate m 0)).toArray := by
    apply Array.ext
    · simp [madeCells, u8s]
    · intro j h1 h2
      simp [madeCells, u8s, Value.cells, Nat.mod_one]
  rw [e]
  rfl

theorem u8_cell {w : World} {g j x : Nat} {bs : List Nat} (h : w.heap[g]? = some (u8row bs)) (hj : bs[j]? = some x) : w.cell? ⟨g, j, none⟩ = some (.int .u8 (x : Int)) := by
  rw [cell_of_row w g j _ 5 (0, 0) h]
  simp [u8s, hj]

theorem u8set {w : World} {g j x : Nat} {bs : List Nat} (h : w.heap[g]? = some (u8row bs)) : (w.setCell ⟨g, j, none⟩ (.int .u8 (x : Int))).heap[g]? = some (u8row (bs.set j x)) := by
  rw [heap_setCell_same w g j _ 5 _ h]
  unfold u8row u8s
  congr 1
  simp

theorem text_of {w : World} {g n c : Nat} {bs : List Nat} (hl : bs.length = n) (hc : ∀ (j x : Nat), bs[j]? = some x → w.cell? ⟨g, j, none⟩ = some (.int .u8 (x : Int))) :
    (convert 88 9 (.slice (some ⟨g, 0, none⟩) n c)).run Try.prog w = .ok (.string (txt bs)) w := by
  refine run_convert_bytes_arg (P := Try.prog) w 88 5 Try.underlying88 Try.underlying5 g 0 n c (bs.map (fun n : Nat => (n : Int))) (by simp [hl]) ?_ 9 Try.underlying9
  intro i hi
  obtain ⟨x, hx⟩ : ∃ x, bs[i]? = some x := ⟨_, List.getElem?_eq_getElem (by omega)⟩
  rw [Nat.zero_add, hc i x hx, List.getD_eq_getElem?_getD, List.getElem?_map, hx]
  rfl

/- the first k chunks told, the others 0 -/
def chunkTo (s : Nat) (l : List Bool) (k : Nat) : List Nat := (List.range (need l.length s)).map (fun i => if i < k then chunk s l i else 0)
theorem chunkTo_zero (s : Nat) (l : List Bool) : chunkTo s l 0 = List.replicate (need l.length s) 0 := by
  apply List.ext_getElem
  · simp [chunkTo]
  · intro j h1 h2
    simp [chunkTo]
theorem chunkTo_all {s : Nat} {l : List Bool} {k : Nat} (h : need l.length s ≤ k) : chunkTo s l k = chunks s l := by
  apply List.ext_getElem
  · simp [chunkTo, chunks]
  · intro j h1 h2
    have : j < k := by simp [chunkTo] at h1; omega
    simp [chunkTo, chunks, this]
theorem chunkTo_length (s : Nat) (l : List Bool) (k : Nat) : (chunkTo s l k).length = need l.length s := by simp [chunkTo]
theorem chunkTo_succ {s : Nat} (l : List Bool) {k : Nat} : chunkTo s l (k + 1) = (chunkTo s l k).set k (chunk s l k) := by
  apply List.ext_getElem
  · simp [chunkTo]
  · intro j h1 h2
    rw [List.getElem_set]
    simp only [chunkTo, List.getElem_map, List.getElem_range]
    by_cases hj : k = j
    · subst hj
      simp
    · have : (j < k + 1) ↔ j < k := by omega
      simp [hj, this]

theorem byte_of_word (l : List Bool) (i : Nat) : chunk 64 l (i / 8) / 2 ^ (8 * (i % 8)) % 256 = chunk 8 l i := by
  apply Nat.eq_of_testBit_eq
  intro j
  rw [show 256 = 2 ^ 8 by rfl, Nat.testBit_mod_two_pow, Nat.testBit_div_two_pow, chunk_testBit, chunk_testBit]
  by_cases hj : j < 8
  · have h1 : j + 8 * (i % 8) < 64 := by omega
    have h2 : 64 * (i / 8) + (j + 8 * (i % 8)) = 8 * i + j := by omega
    rw [h2]
    simp [hj, h1]
  · simp [hj]

end Go.Proofs.Ytdmodknjcdkocaa.T

namespace Go.Proofs.Ytdmodknjcdkocaa.T
open Go.RowKit
set_option maxRecDepth 100000
attribute [local go_sem] not_any mf_any

theorem take_snoc {l : List Bool} {k : Nat} {b : Bool} (h : l[k]? = some b) : l.take (k + 1) = l.take k ++ [b] := by
  rw [List.take_add_one, h]
  rfl

theorem chunks_snoc_false {s : Nat} (hs : 0 < s) (A : List Bool) : chunks s (A ++ [false]) = if A.length % s = 0 then chunks s A ++ [0] else chunks s A := by
  have hg : ∀ i, (A ++ [false]).getD i false = A.getD i false := by
    intro i
    simp only [List.getD_eq_getElem?_getD, List.getElem?_append]
    by_cases h : i < A.length
    · simp [h]
    · rw [if_neg h, List.getElem?_eq_none (show A.length ≤ i by omega)]
      match h' : i - A.length with
      | 0 => rfl
      | j + 1 => rfl
  symm
  split
  · rename_i h
    apply chunks_ext
    · rw [List.length_append, chunks_length, List.length_append, List.length_singleton, List.length_singleton]
      unfold need
      obtain ⟨q, hq⟩ : ∃ q, A.length = s * q := ⟨A.length / s, by have := Nat.div_add_mod A.length s; omega⟩
      rw [hq, show s * q + 1 + s - 1 = s * (q + 1) by rw [Nat.mul_add]; omega, Nat.mul_div_cancel_left _ hs, show s * q + s - 1 = s * q + (s - 1) by omega, Nat.mul_add_div hs, Nat.div_eq_of_lt (show s - 1 < s by omega)]
    · intro k x hx
      rw [List.getElem?_append] at hx
      split at hx
      · obtain ⟨h1, rfl⟩ := chunks_get' hx
        refine ⟨chunk_lt _ _ _, fun j hj => ?_⟩
        rw [chunk_testBit, hg]
        simp [hj]
      · rename_i hk
        rw [chunks_length] at hk hx
        have hx0 : x = 0 := by
          match h' : k - need A.length s, hx with
          | 0, hx => simpa [h'] using hx.symm
          | j + 1, hx => simp at hx
        subst hx0
        refine ⟨Nat.two_pow_pos s, fun j hj => ?_⟩
        rw [Nat.zero_testBit, hg, List.getD_eq_getElem?_getD, List.getElem?_eq_none]
        · rfl
        · have h1 : A.length ≤ s * need A.length s := by
            unfold need
            have := Nat.div_add_mod (A.length + s - 1) s
            have := Nat.mod_lt (A.length + s - 1) hs
            omega
          have h2 : s * need A.length s ≤ s * k := Nat.mul_le_mul_left _ (by omega)
          omega
  · rename_i h
    apply chunks_ext
    · rw [chunks_length, List.length_append, List.length_singleton]
      unfold need
      have h0 := Nat.div_add_mod A.length s
      have h1 := Nat.mod_lt A.length hs
      rw [show A.length + s - 1 = s * (A.length / s) + (A.length % s + s - 1) by omega, show A.length + 1 + s - 1 = s * (A.length / s) + (A.length % s + s) by omega, Nat.mul_add_div hs, Nat.mul_add_div hs]
      congr 1
      rw [show A.length % s + s - 1 = s * 1 + (A.length % s - 1) by omega, show A.length % s + s = s * 1 + A.length % s by omega, Nat.mul_add_div hs, Nat.mul_add_div hs, Nat.div_eq_of_lt (by omega), Nat.div_eq_of_lt h1]
    · intro k x hx
      obtain ⟨h1, rfl⟩ := chunks_get' hx
      refine ⟨chunk_lt _ _ _, fun j hj => ?_⟩
      rw [chunk_testBit, hg]
      simp [hj]

theorem chunk_last_lt {s : Nat} (A : List Bool) : chunk s (A ++ [false]) (A.length / s) < 2 ^ (A.length % s) := by
  have h0 := Nat.div_add_mod A.length s
  apply Nat.lt_pow_two_of_testBit
  intro j hj
  rw [chunk_testBit, List.getD_eq_getElem?_getD, List.getElem?_append]
  split
  · omega
  · match h' : s * (A.length / s) + j - A.length with
    | 0 => simp
    | i + 1 => simp

theorem chunks_snoc_true {s : Nat} (hs : 0 < s) (A : List Bool) : chunks s (A ++ [true]) = (chunks s (A ++ [false])).set (A.length / s) (chunk s (A ++ [false]) (A.length / s) + 2 ^ (A.length % s)) := by
  have e : A ++ [true] = (A ++ [false]).set A.length true := by
    rw [List.set_append]
    simp
  rw [e, chunks_set_true hs _ _ (by simp), Nat.or_comm, nat_join (A.length % s) _ _ (Nat.mod_self _) (chunk_last_lt A), Nat.add_comm]

theorem need_snoc64 (k : Nat) : need (k + 1) 64 = if k % 64 = 0 then need k 64 + 1 else need k 64 := by
  rw [need64, need64]
  split <;> omega
theorem need_snoc8 (k : Nat) : need (k + 1) 8 = if k % 8 = 0 then need k 8 + 1 else need k 8 := by
  rw [need8, need8]
  split <;> omega

end Go.Proofs.Ytdmodknjcdkocaa.T

namespace Go.Proofs.Ytdmodknjcdkocaa.T
open Go.RowKit
set_option maxRecDepth 100000
attribute [local go_sem] not_any mf_any

theorem info55 : (Try.prog.info? 49).map (fun i => (i.zero, i.size, i.bytes)) = some (some (.int .u64 0), 1, 8) := by kernel_rfl

theorem row_form {w : World} {base : Nat} {e : TypeId} {size n : Nat} {v : Value} {xs : List Value} (h : w.ownsRow base e size v n xs) : ∃ a c, v = .slice a n c := by
  rcases h.2 with ⟨h1, h2⟩ | ⟨g, cap, cur, h1, _⟩
  · exact ⟨none, 0, by rw [h1, h2]⟩
  · exact ⟨_, _, h1⟩

theorem row_some {w : World} {base : Nat} {e : TypeId} {size n : Nat} {v : Value} {xs : List Value} (h : w.ownsRow base e size v n xs) (hn : 0 < n) : ∃ g c, v = .slice (some ⟨g, 0, none⟩) n c ∧ base ≤ g ∧ g < w.heap.size := by
  rcases h.2 with ⟨h1, h2⟩ | ⟨g, cap, cur, h1, h2, h3, _⟩
  · omega
  · exact ⟨g, cap, h1, h2, lt_heap h3⟩

theorem own_nl {w : World} {base n : Nat} {a : Option Addr} {c : Nat} {ws : List Nat} (h : w.ownsRow base 49 1 (.slice a n c) n (u64s ws)) (hl : ws.length = n) : Nl w n a ws :=
  ⟨hl, fun j x hj => by
    have hjn : j < n := by rw [← hl]; exact (List.getElem?_eq_some_iff.1 hj).1
    obtain ⟨g, c', hv, _⟩ := row_some h (by omega)
    cases hv
    refine ⟨g, 0, rfl, ?_⟩
    rw [Nat.zero_add, h.cellAt j (by omega)]
    simp [u64s, hj]⟩

theorem u64s_snoc (ws : List Nat) : u64s ws ++ [.int .u64 0] = u64s (ws ++ [0]) := by simp [u64s]
theorem u64s_set (ws : List Nat) (j x : Nat) : (u64s ws).set j (.int .u64 (x : Int)) = u64s (ws.set j x) := by simp [u64s]

end Go.Proofs.Ytdmodknjcdkocaa.T

namespace Go.Proofs.Ytdmodknjcdkocaa.T
open Go.RowKit
set_option maxRecDepth 100000
attribute [local go_sem] not_any mf_any

theorem info5' : (Try.prog.info? 5).map (fun i => (i.zero, i.size, i.bytes)) = some (some (.int .u8 0), 1, 1) := by kernel_rfl
theorem u8s_snoc (ws : List Nat) : u8s ws ++ [.int .u8 0] = u8s (ws ++ [0]) := by simp [u8s]
theorem u8s_set (ws : List Nat) (j x : Nat) : (u8s ws).set j (.int .u8 (x : Int)) = u8s (ws.set j x) := by simp [u8s]
theorem wrap_pow8 {j : Nat} (h : j < 8) : IntKind.u8.wrap (2 ^ j) = ((2 ^ j : Nat) : Int) := by
  rw [IntKind.wrap_u8]
  have : 2 ^ j < 2 ^ 8 := Nat.pow_lt_pow_right (by omega) h
  have e : ((2 : Int) ^ j) = ((2 ^ j : Nat) : Int) := by simp
  rw [e]
  obtain ⟨p, hp⟩ : ∃ p, p = 2 ^ j := ⟨_, rfl⟩
  rw [← hp] at this ⊢
  omega

end Go.Proofs.Ytdmodknjcdkocaa.T
