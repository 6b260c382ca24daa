/- Bytes as words, pure; what Words answers. Bits of bytes: what each byte lays. Bits read of bytes. -/
import Derived.Test.YtdmodknjcdkocaaJ10
import Derived.Test.YtdmodknjcdkocaaJ17
namespace Go.Proofs.Ytdmodknjcdkocaa.Pg
open Go.RowKit

/- bytes as a number, the lowest one first -/
def num : List Nat → Nat
  | [] => 0
  | b :: l => b + 256 * num l
theorem num_snoc (b : Nat) : ∀ l : List Nat, num (l ++ [b]) = num l + b * 2 ^ (8 * l.length)
  | [] => by simp [num]
  | a :: l => by
    rw [List.cons_append, num, num_snoc b l, num, List.length_cons, show 8 * (l.length + 1) = 8 * l.length + 8 by omega, Nat.pow_add, Nat.mul_add, Nat.add_assoc]
    congr 2
    rw [show (2 : Nat) ^ 8 = 256 by rfl, Nat.mul_left_comm, Nat.mul_comm 256]
theorem num_lt : ∀ l : List Nat, Lt 256 l → num l < 2 ^ (8 * l.length)
  | [], _ => by simp [num]
  | a :: l, h => by
    have h1 : a < 256 := h a (List.mem_cons_self ..)
    have h2 := num_lt l (fun x hx => h x (List.mem_cons_of_mem _ hx))
    rw [num, List.length_cons, show 8 * (l.length + 1) = 8 * l.length + 8 by omega, Nat.pow_add, show (2 : Nat) ^ 8 = 256 by rfl]
    omega
theorem num_or {l : List Nat} (h : Lt 256 l) (b : Nat) : num l ||| b * 2 ^ (8 * l.length) = num (l ++ [b]) := by
  rw [num_snoc, Nat.or_comm, Nat.mul_comm b, ← Nat.two_pow_add_eq_or_of_lt (num_lt l h), Nat.add_comm]
theorem num_lt64 {l : List Nat} (h : Lt 256 l) (hl : l.length ≤ 8) : num l < 18446744073709551616 :=
  Nat.lt_of_lt_of_le (num_lt l h) (Nat.pow_le_pow_right (n := 2) (by omega) (show 8 * l.length ≤ 64 by omega))

/- words of bytes, as far as i bytes were laid -/
def wacc (l : List Nat) (N i : Nat) : List Nat := (List.range N).map (fun j => num ((l.drop (8 * j)).take (min 8 (i - 8 * j))))
theorem wacc_length (l : List Nat) (N i : Nat) : (wacc l N i).length = N := by simp [wacc]
theorem wacc_get {l : List Nat} {N i j : Nat} (h : j < N) : (wacc l N i)[j]? = some (num ((l.drop (8 * j)).take (min 8 (i - 8 * j)))) := by simp [wacc, h]
theorem wacc_zero (l : List Nat) (N : Nat) : wacc l N 0 = List.replicate N 0 := by
  apply List.ext_getElem?
  intro j
  by_cases h : j < N
  · rw [wacc_get h]
    simp [h, num]
  · rw [List.getElem?_eq_none (by rw [wacc_length]; omega), List.getElem?_eq_none (by simp; omega)]
theorem take_snoc {l : List Nat} {k : Nat} (h : k < l.length) : l.take (k + 1) = l.take k ++ [at0 l k] := by
  rw [List.take_add_one, List.getElem?_eq_getElem h]
  simp [at0, List.getElem?_eq_getElem h]
theorem wacc_succ {l : List Nat} {N i : Nat} (hl : l.length = 8 * N) (hb : Lt 256 l) (hi : i < 8 * N) :
    (wacc l N i)[i / 8]? = some (num ((l.drop (8 * (i / 8))).take (i % 8))) ∧ wacc l N (i + 1) = (wacc l N i).set (i / 8) (num ((l.drop (8 * (i / 8))).take (i % 8)) ||| at0 l i * 2 ^ (8 * (i % 8))) := by
  have e1 : min 8 (i - 8 * (i / 8)) = i % 8 := by omega
  refine ⟨by rw [wacc_get (by omega), e1], ?_⟩
  have hlen : ((l.drop (8 * (i / 8))).take (i % 8)).length = i % 8 := by rw [List.length_take, List.length_drop]; omega
  have hor := num_or ((hb.drop (8 * (i / 8))).take (i % 8)) (at0 l i)
  rw [hlen] at hor
  rw [hor]
  apply List.ext_getElem?
  intro j
  rw [List.getElem?_set]
  by_cases hj : j < N
  · rw [wacc_get hj, wacc_get hj, wacc_length]
    split
    · rename_i he
      rw [if_pos (by omega), ← he, show min 8 (i + 1 - 8 * (i / 8)) = i % 8 + 1 by omega, take_snoc (by rw [List.length_drop]; omega), at0_drop, Nat.div_add_mod]
    · rename_i he
      congr 3
      omega
  · rw [List.getElem?_eq_none (by rw [wacc_length]; omega)]
    split
    · rw [if_neg (by rw [wacc_length]; omega)]
    · rw [List.getElem?_eq_none (by rw [wacc_length]; omega)]

/- the stream's words -/
def wd (kl : List Nat) (x j : Nat) : Nat := num (byt kl x (8 * j) 8)
def wrd (kl : List Nat) (x F N : Nat) : List Nat := (List.range N).map (fun j => wd kl x (F + j))
theorem wd_lt (kl : List Nat) (x j : Nat) : wd kl x j < 18446744073709551616 := num_lt64 (byt_lt _ _ _ _) (by rw [byt_length]; omega)
theorem wrd_length (kl : List Nat) (x F N : Nat) : (wrd kl x F N).length = N := by simp [wrd]
theorem byt_cut {kl : List Nat} {x F N o m : Nat} (h : o + m ≤ N) : ((byt kl x F N).drop o).take m = byt kl x (F + o) m := by
  refine at0_ext (by rw [List.length_take, List.length_drop, byt_length, byt_length]; omega) (fun i hi => ?_)
  rw [List.length_take, List.length_drop, byt_length] at hi
  rw [at0_take (by omega), at0_drop, byt_at (by omega), byt_at (by omega), Nat.add_assoc]
theorem wacc_all (kl : List Nat) (x F N : Nat) : wacc (byt kl x (8 * F) (8 * N)) N (8 * N) = wrd kl x F N := by
  unfold wacc wrd
  apply List.map_congr_left
  intro j hj
  have hj' : j < N := by simpa using hj
  rw [show min 8 (8 * N - 8 * j) = 8 by omega, byt_cut (by omega), wd, Nat.mul_add]

def wC (f n : Int) : Int := if f < 0 ∨ n < 0 ∨ 4096 < n ∨ 134217728 < f then 2 else bC (8 * f) (8 * n)
def wL (kl : List Nat) (x : Nat) (f n : Int) : List Nat := if wC f n = 0 then wrd kl x f.toNat n.toNat else []
theorem wC_no {f n : Int} (h : f < 0 ∨ n < 0 ∨ 4096 < n ∨ 134217728 < f) : wC f n = 2 := if_pos h
theorem wC_far {F N : Nat} (h : N ≤ 4096) (h2 : F ≤ 134217728) (h3 : 134217728 < F + N) : wC (F : Int) (N : Int) = 2 := by
  rw [wC, if_neg (by omega), bC_no (by omega)]
theorem wC_yes {F N : Nat} (h : N ≤ 4096) (h2 : F + N ≤ 134217728) : wC (F : Int) (N : Int) = 0 := by
  rw [wC, if_neg (by omega)]
  exact bC_yes (F := 8 * F) (N := 8 * N) (by omega) (by omega)
theorem wL_yes {kl : List Nat} {x F N : Nat} (h : N ≤ 4096) (h2 : F + N ≤ 134217728) : wL kl x (F : Int) (N : Int) = wrd kl x F N := by
  rw [wL, if_pos (wC_yes h h2), Int.toNat_natCast, Int.toNat_natCast]
theorem wL_two {kl : List Nat} {x : Nat} {f n : Int} (h : wC f n = 2) : wL kl x f n = [] := by
  rw [wL, h, if_neg (by omega)]

/- a list of words as an answer -/
def WPost (w : World) (ws : List Nat) (code : Int) (e : Ending) (w' : World) : Prop :=
  ∃ a m c, e = .returned (.tuple #[.slice a m c, .int .i64 code]) ∧ V.Nl w' m a ws ∧ (∀ p, a = some p → w.heap.size ≤ p.block) ∧ Below w.heap.size w w'
theorem nl_nil (w : World) : V.Nl w 0 none [] := ⟨rfl, fun k x h => by simp at h⟩
theorem nl_row {w : World} {g : Nat} {ws : List Nat} (h : w.heap[g]? = some (V.wrow ws)) : V.Nl w ws.length (some ⟨g, 0, none⟩) ws :=
  ⟨rfl, fun k x hx => ⟨g, 0, rfl, by rw [Nat.zero_add]; exact V.row_cell h hx⟩⟩
end Go.Proofs.Ytdmodknjcdkocaa.Pg

namespace Go.Proofs.Ytdmodknjcdkocaa.Pg.V
open Go.RowKit
set_option maxRecDepth 100000

/- the numbers of a text's bytes, and its first n bits -/
def nums (s : ByteArray) : List Nat := s.data.toList.map (fun b => b.toNat)
def rbits (n : Nat) (s : ByteArray) : List Bool := (List.range n).map (fun i => ((nums s).getD (i / 8) 0).testBit (i % 8))

theorem nums_length (s : ByteArray) : (nums s).length = s.size := by
  rw [nums, List.length_map]
  exact Array.length_toList
theorem nums_lt {s : ByteArray} {k x : Nat} (h : (nums s)[k]? = some x) : x < 256 := by
  simp only [nums, List.getElem?_map, Option.map_eq_some_iff] at h
  obtain ⟨b, _, rfl⟩ := h
  exact b.toNat_lt
theorem rbits_length (n : Nat) (s : ByteArray) : (rbits n s).length = n := by simp [rbits]
theorem rbits_getD {n : Nat} {s : ByteArray} {i : Nat} (h : i < n) : (rbits n s).getD i false = ((nums s).getD (i / 8) 0).testBit (i % 8) := by
  rw [List.getD_eq_getElem?_getD]
  simp [rbits, h]

/- nothing stands behind the last bit -/
def Clean (n : Nat) (s : ByteArray) : Prop := ∀ (k x : Nat), (nums s)[k]? = some x → ∀ j, j < 8 → n ≤ 8 * k + j → x.testBit j = false

theorem byte_bits {n : Nat} {s : ByteArray} (hc : Clean n s) {k x : Nat} (h : (nums s)[k]? = some x) {j : Nat} (hj : j < 8) : x.testBit j = (rbits n s).getD (8 * k + j) false := by
  by_cases hn : 8 * k + j < n
  · rw [rbits_getD hn, Nat.mul_add_div (by omega), Nat.mul_add_mod, Nat.div_eq_of_lt hj, Nat.mod_eq_of_lt hj, Nat.add_zero, List.getD_eq_getElem?_getD, h]
    rfl
  · rw [hc k x h j hj (by omega), List.getD_eq_getElem?_getD, List.getElem?_eq_none (by rw [rbits_length]; omega)]
    rfl

theorem chunks_rbits {n : Nat} {s : ByteArray} (hc : Clean n s) (hl : s.size = need n 8) : chunks 8 (rbits n s) = nums s := by
  symm
  apply chunks_ext (by rw [nums_length, rbits_length, hl])
  intro k x hx
  exact ⟨nums_lt hx, fun j hj => byte_bits hc hx hj⟩

theorem chunks_or_byte (l : List Bool) (k y : Nat) (hy : y < 256) (_hk : 8 * k < l.length) (h : ∀ j, j < 8 → y.testBit j = l.getD (8 * k + j) false) :
    chunks 64 (firsts l (8 * (k + 1))) = (chunks 64 (firsts l (8 * k))).set (k / 8) (chunk 64 (firsts l (8 * k)) (k / 8) ||| y * 2 ^ (8 * (k % 8))) := by
  symm
  apply chunks_ext (by rw [List.length_set, chunks_length, firsts_length, firsts_length])
  intro q x hx
  rw [List.getElem?_set] at hx
  have hb : y * 2 ^ (8 * (k % 8)) < 2 ^ 64 := by
    have h1 : 2 ^ (8 * (k % 8)) ≤ 2 ^ 56 := Nat.pow_le_pow_right (by omega) (by omega)
    have h2 : y * 2 ^ (8 * (k % 8)) ≤ 255 * 2 ^ 56 := Nat.mul_le_mul (by omega) h1
    have h3 : 255 * 2 ^ 56 < (2 : Nat) ^ 64 := by decide
    omega
  by_cases hq : k / 8 = q
  · rw [if_pos hq] at hx
    split at hx
    · cases hx
      refine ⟨Nat.or_lt_two_pow (chunk_lt _ _ _) hb, fun j hj => ?_⟩
      rw [Nat.testBit_or, chunk_testBit, firsts_getD, firsts_getD, Nat.mul_comm y, Nat.testBit_two_pow_mul]
      have e8 : 8 * k = 64 * q + 8 * (k % 8) := by omega
      by_cases h1 : j < 8 * (k % 8)
      · have a1 : 64 * q + j < 8 * k := by omega
        have a2 : 64 * q + j < 8 * (k + 1) := by omega
        have a3 : ¬ 8 * (k % 8) ≤ j := by omega
        rw [hq]
        simp [hj, a1, a2, a3]
      · have a1 : ¬ 64 * (k / 8) + j < 8 * k := by omega
        have a3 : 8 * (k % 8) ≤ j := by omega
        by_cases h2 : j - 8 * (k % 8) < 8
        · have a2 : 64 * q + j < 8 * (k + 1) := by omega
          rw [h _ h2, show 8 * k + (j - 8 * (k % 8)) = 64 * q + j by omega]
          simp [a1, a2, a3]
        · have a2 : ¬ 64 * q + j < 8 * (k + 1) := by omega
          have a4 : y.testBit (j - 8 * (k % 8)) = false := Nat.testBit_lt_two_pow (Nat.lt_of_lt_of_le hy (show 2 ^ 8 ≤ 2 ^ (j - 8 * (k % 8)) from Nat.pow_le_pow_right (by omega) (by omega)))
          simp [a1, a2, a4]
    · cases hx
  · rw [if_neg hq] at hx
    obtain ⟨_, rfl⟩ := chunks_get' hx
    refine ⟨chunk_lt _ _ _, fun j hj => ?_⟩
    rw [chunk_testBit, firsts_getD, firsts_getD]
    have : (64 * q + j < 8 * (k + 1)) ↔ 64 * q + j < 8 * k := by omega
    simp [hj, this]

end Go.Proofs.Ytdmodknjcdkocaa.Pg.V

namespace Go.Proofs.Ytdmodknjcdkocaa.Pg.V
open Go.RowKit
set_option maxRecDepth 100000
attribute [local go_sem] not_any mf_any field_words

theorem nums_at {s : ByteArray} {k : Nat} (h : k < s.size) : (nums s)[k]? = some (s[k]'h).toNat := by
  unfold nums
  rw [List.getElem?_map, Array.getElem?_toList, Array.getElem?_eq_getElem (show k < s.data.size from h)]
  rfl

theorem byte_shift (x j : Nat) : ((x : Int) / 2 ^ j != 0) = decide (x / 2 ^ j ≠ 0) := by
  rw [pow_cast, ← Int.natCast_ediv]
  by_cases h : x / 2 ^ j = 0
  · simp [h]
  · simp only [ne_eq, h, not_false_eq_true, decide_true, bne_iff_ne]
    omega

theorem or_byte {x y j : Nat} (hx : x < 18446744073709551616) (hy : y < 256) (hj : j ≤ 56) : bits .or .u64 (x : Int) (IntKind.u64.wrap ((y : Int) * 2 ^ j)) = ((x ||| y * 2 ^ j : Nat) : Int) := by
  have h1 : 2 ^ j ≤ 2 ^ 56 := Nat.pow_le_pow_right (by omega) hj
  have h2 : y * 2 ^ j ≤ 255 * 2 ^ 56 := Nat.mul_le_mul (by omega) h1
  have h3 : 255 * 2 ^ 56 < 18446744073709551616 := by decide
  have h4 : IntKind.u64.wrap (((y * 2 ^ j : Nat) : Int)) = ((y * 2 ^ j : Nat) : Int) := by
    rw [IntKind.wrap_u64]
    generalize y * 2 ^ j = z at h2 ⊢
    omega
  rw [pow_cast, ← Int.natCast_mul, h4, u64_or_nat _ _ hx (by omega)]

end Go.Proofs.Ytdmodknjcdkocaa.Pg.V
