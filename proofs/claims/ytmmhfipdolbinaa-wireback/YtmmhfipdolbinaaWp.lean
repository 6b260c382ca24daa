/- What is written is read as it was. Pure. -/
import Derived.Test.YtmmhfipdolbinaaWg
import Derived.Test.YtmmhfipdolbinaaSc
import Derived.Test.YtmmhfipdolbinaaSd
namespace Go.Proofs.Ytmmhfipdolbinaa
open Go.RowKit

theorem num_back {n x : Nat} (R : List Nat) (hx : x < 256 ^ n) : numC n (fix x n ++ R) = 0 ∧ numX n (fix x n ++ R) = x := by
  have h : n ≤ (fix x n ++ R).length := by rw [List.length_append, fix_length]; omega
  refine ⟨if_pos h, ?_⟩
  rw [numX, if_pos h, List.take_append_of_le_length (by rw [fix_length]; omega), List.take_of_length_le (by rw [fix_length]; omega), val_fix, Nat.mod_eq_of_lt hx]
theorem lst_back {most : Int} {tb n : Nat} (H R : List Nat) (h : (n : Int) ≤ most) (hn : n < 4294967296) (hH : H.length = (n * tb + 7) / 8) :
    lstC most tb (fix n 4 ++ H ++ R) = 0 ∧ cntN (fix n 4 ++ H ++ R) = n ∧ lstH tb (fix n 4 ++ H ++ R) = H := by
  have hc : cntN (fix n 4 ++ H ++ R) = n := by
    rw [cntN, List.append_assoc, List.take_append_of_le_length (by rw [fix_length]; omega), List.take_of_length_le (by rw [fix_length]; omega), val_fix, Nat.mod_eq_of_lt hn]
  have hl : (fix n 4 ++ H ++ R).length = 4 + H.length + R.length := by rw [List.length_append, List.length_append, fix_length]
  refine ⟨?_, hc, ?_⟩
  · rw [lstC, hc, hl, if_neg (by omega), if_neg (by omega), if_neg (by omega)]
  · rw [lstH, hc, List.append_assoc]
    have e : (fix n 4 ++ (H ++ R)).drop 4 = H ++ R := by
      rw [List.drop_append_of_le_length (by rw [fix_length]; omega), List.drop_of_length_le (by rw [fix_length]; omega)]
      rfl
    rw [e, List.take_append_of_le_length (by omega), List.take_of_length_le (by omega)]

theorem blob_back (s : ByteArray) (R : List Nat) (h : s.size ≤ 2000) : lstC (mostN 2000 65536) 8 (fix s.size 4 ++ nums s ++ R) = 0 ∧ blobT 2000 (fix s.size 4 ++ nums s ++ R) = s := by
  obtain ⟨h1, h2, h3⟩ := lst_back (most := mostN 2000 65536) (tb := 8) (n := s.size) (nums s) R (by show (s.size : Int) ≤ 2000; omega) (by omega) (by rw [nums_length]; omega)
  refine ⟨h1, ?_⟩
  rw [blobT, if_pos h1, h3, txt_nums]
theorem raw_back (s : ByteArray) (R : List Nat) (h : s.size ≤ 2000) : rawC (s.size : Int) (nums s ++ R) = 0 ∧ rawT (s.size : Int) (nums s ++ R) = s ∧ rawS (s.size : Int) = s.size := by
  have h0 : ¬ ((s.size : Int) < 0 ∨ 65536 < (s.size : Int)) := by omega
  have h1 : rawC (s.size : Int) (nums s ++ R) = 0 := by rw [rawC, if_neg h0, if_neg (by rw [List.length_append, nums_length]; omega)]
  refine ⟨h1, ?_, by rw [rawS, if_neg h0]; rfl⟩
  rw [rawT, if_pos h1, Int.toNat_natCast, List.take_append_of_le_length (by rw [nums_length]; omega), List.take_of_length_le (by rw [nums_length]; omega), txt_nums]

theorem wordsB_cut {n : Nat} : ∀ (ws : List Nat) (i x : Nat), ws[i]? = some x → ((wordsB n ws).drop (i * n)).take n = fix x n
  | y :: ws, i, x, h => by
    have e : wordsB n (y :: ws) = fix y n ++ wordsB n ws := by simp [wordsB]
    match i, h with
    | 0, h =>
      obtain rfl := Option.some.inj h
      rw [e, Nat.zero_mul, List.drop_zero, List.take_append_of_le_length (by rw [fix_length]; omega), List.take_of_length_le (by rw [fix_length]; omega)]
    | i + 1, h =>
      have h' : ws[i]? = some x := h
      have e2 : (fix y n).drop n = [] := List.drop_of_length_le (by rw [fix_length]; omega)
      rw [e, Nat.succ_mul, Nat.add_comm, ← List.drop_drop, List.drop_append_of_le_length (by rw [fix_length]; omega), e2, List.nil_append]
      exact wordsB_cut ws i x h'
theorem wordsP_back {n : Nat} {ws : List Nat} (h : ∀ x ∈ ws, x < 256 ^ n) : wordsP n ws.length (wordsB n ws) = ws := by
  apply List.ext_getElem?
  intro i
  by_cases hi : i < ws.length
  · rw [wordsP_get hi, List.getElem?_eq_getElem hi, wordK, wordsB_cut ws i ws[i] (List.getElem?_eq_getElem hi), val_fix, Nat.mod_eq_of_lt (h _ (List.getElem_mem hi))]
  · rw [List.getElem?_eq_none (by rw [wordsP_length]; omega), List.getElem?_eq_none (by omega)]
theorem pow_bytes {wd : Nat} : 2 ^ wd ≤ 256 ^ ((wd + 7) / 8) := by
  rw [show (256 : Nat) = 2 ^ 8 by rfl, ← Nat.pow_mul]
  exact Nat.pow_le_pow_right (by omega) (by omega)
theorem words_back {wd m : Nat} {ws : List Nat} (R : List Nat) (h1 : 1 ≤ wd) (h2 : wd ≤ 64) (hm : ws.length = m) (h : m ≤ 2000) (hf : FitsW wd ws) :
    wdC (wd : Int) 2000 (fix m 4 ++ wordsB ((wd + 7) / 8) ws ++ R) = 0 ∧ wdV (wd : Int) 2000 (fix m 4 ++ wordsB ((wd + 7) / 8) ws ++ R) = ws ∧ wdS (wd : Int) 2000 (fix m 4 ++ wordsB ((wd + 7) / 8) ws ++ R) = 4 + m * ((wd + 7) / 8) := by
  have hb : bytesW (wd : Int) = (wd + 7) / 8 := by rw [bytesW, Int.toNat_natCast]
  obtain ⟨n, hn⟩ : ∃ n, n = (wd + 7) / 8 := ⟨_, rfl⟩
  have hp : ∀ x ∈ ws, x < 256 ^ n := fun x hx => Nat.lt_of_lt_of_le (hf x hx) (by rw [hn]; exact pow_bytes)
  rw [← hn] at hb ⊢
  have hwI : ¬ ((wd : Int) < 1 ∨ 64 < (wd : Int)) := by omega
  obtain ⟨q1, q2, q3⟩ := lst_back (most := mostN 2000 65536) (tb := 8 * n) (n := m) (wordsB n ws) R (by show (m : Int) ≤ 2000; omega) (by omega) (by
    rw [wordsB_length, hm, show m * (8 * n) = 8 * (m * n) by rw [Nat.mul_left_comm]]
    omega)
  have hL : wdL (wd : Int) (fix m 4 ++ wordsB n ws ++ R) = ws := by
    rw [wdL, hb, q2, q3, ← hm]
    exact wordsP_back hp
  have hC : wdC (wd : Int) 2000 (fix m 4 ++ wordsB n ws ++ R) = 0 := by
    rw [wdC, if_neg hwI, hb, q1, if_neg (by simp), hL, Int.toNat_natCast, if_pos (fitsB_iff.2 hf)]
  exact ⟨hC, by rw [wdV, if_pos hC, hL], by rw [wdS, if_neg hwI, hb, q1, if_neg (by simp), q2]⟩

theorem bits_of_chunks {l : List Bool} {n : Nat} (hl : l.length = n) : rbits n (txt (chunks 8 l)) = l ∧ Clean n (txt (chunks 8 l)) := by
  have hn := nums_txt (chunks8_lt l)
  constructor
  · apply bool_ext (by rw [rbits_length, hl])
    intro j hj
    rw [rbits_length] at hj
    rw [rbits_getD hj, hn, List.getD_eq_getElem?_getD, chunks_get (by rw [hl, need8]; omega)]
    show (chunk 8 l (j / 8)).testBit (j % 8) = _
    rw [chunk_testBit, Nat.div_add_mod]
    simp [Nat.mod_lt]
  · intro k x hx j hj hnk
    rw [hn] at hx
    obtain ⟨hk, rfl⟩ := chunks_get' hx
    rw [chunk_testBit, List.getD_eq_getElem?_getD, List.getElem?_eq_none (by omega)]
    simp
theorem bits_back {l : List Bool} {n : Nat} (R : List Nat) (hl : l.length = n) (h : n ≤ 2000) :
    btC 2000 (fix n 4 ++ chunks 8 l ++ R) = 0 ∧ btV 2000 (fix n 4 ++ chunks 8 l ++ R) = l ∧ btS 2000 (fix n 4 ++ chunks 8 l ++ R) = 4 + need n 8 := by
  obtain ⟨q1, q2, q3⟩ := lst_back (most := mostN 2000 524288) (tb := 1) (n := n) (chunks 8 l) R (by show (n : Int) ≤ 2000; omega) (by omega) (by rw [chunks8_length, hl, need8, Nat.mul_one])
  obtain ⟨r1, r2⟩ := bits_of_chunks hl
  have hcl : cleanB n (chunks 8 l) = true := by
    have := cleanB_iff.2 r2
    rwa [nums_txt (chunks8_lt l)] at this
  have hC : btC 2000 (fix n 4 ++ chunks 8 l ++ R) = 0 := by rw [btC, q1, if_neg (by simp), q2, q3, if_pos hcl]
  exact ⟨hC, by rw [btV, if_pos hC, btL, q2, q3, r1], by rw [btS, q1, if_neg (by simp), q2]⟩
end Go.Proofs.Ytmmhfipdolbinaa
