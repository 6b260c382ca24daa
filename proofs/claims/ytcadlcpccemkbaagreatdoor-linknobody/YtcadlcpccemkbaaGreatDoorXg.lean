/- What is encoded is decoded as it was, and what is decoded encoded: pure. Two frames that are alike. -/
import Derived.Test.YtcadlcpccemkbaaGreatDoorXf
import Derived.Laws.StructEq
namespace Go.Proofs.YtcadlcpccemkbaaGreatDoor.X
open Go.RowKit
set_option maxRecDepth 100000

theorem mid_take {A B C L : List Nat} {n m : Nat} (h : L = A ++ (B ++ C)) (hA : A.length = n) (hB : B.length = m) : (L.drop n).take m = B := by
  subst hA; subst hB
  rw [h, List.drop_left', List.take_left']
  all_goals rfl
theorem mid_drop {A B L : List Nat} {n : Nat} (h : L = A ++ B) (hA : A.length = n) : L.drop n = B := by
  subst hA
  rw [h, List.drop_left']
  rfl
theorem enc_nums (k o p q a : Nat) (b : ByteArray) : nums (txt (encB k o p q a b)) = encB k o p q a b := nums_txt (encB_lt _ _ _ _ _ _)
theorem enc_size (k o p q a : Nat) (b : ByteArray) : (txt (encB k o p q a b)).size = 17 + b.size := by rw [txt_size (encB_lt _ _ _ _ _ _), encB_length]
theorem enc_hdK (k o p q a : Nat) (b : ByteArray) (h : k < 256) : hdK (txt (encB k o p q a b)) = k := by
  rw [hdK, enc_nums, mid_take (n := 0) (A := []) (B := fix k 1) (C := fix o 4 ++ (fix p 4 ++ (fix q 4 ++ (fix a 4 ++ nums b)))) (by simp [encB]) rfl (fix_length _ _), val_fix]
  exact Nat.mod_eq_of_lt h
theorem enc_hd1 (k o p q a : Nat) (b : ByteArray) (h : o < 4294967296) : hdN (txt (encB k o p q a b)) 1 = o := by
  rw [hdN, enc_nums, mid_take (A := fix k 1) (B := fix o 4) (C := fix p 4 ++ (fix q 4 ++ (fix a 4 ++ nums b))) (by simp [encB]) (fix_length _ _) (fix_length _ _), val_fix]
  exact Nat.mod_eq_of_lt h
theorem enc_hd5 (k o p q a : Nat) (b : ByteArray) (h : p < 4294967296) : hdN (txt (encB k o p q a b)) 5 = p := by
  rw [hdN, enc_nums, mid_take (A := fix k 1 ++ fix o 4) (B := fix p 4) (C := fix q 4 ++ (fix a 4 ++ nums b)) (by simp [encB]) (by simp [fix_length]) (fix_length _ _), val_fix]
  exact Nat.mod_eq_of_lt h
theorem enc_hd9 (k o p q a : Nat) (b : ByteArray) (h : q < 4294967296) : hdN (txt (encB k o p q a b)) 9 = q := by
  rw [hdN, enc_nums, mid_take (A := fix k 1 ++ (fix o 4 ++ fix p 4)) (B := fix q 4) (C := fix a 4 ++ nums b) (by simp [encB]) (by simp [fix_length]) (fix_length _ _), val_fix]
  exact Nat.mod_eq_of_lt h
theorem enc_hd13 (k o p q a : Nat) (b : ByteArray) (h : a < 4294967296) : hdN (txt (encB k o p q a b)) 13 = a := by
  rw [hdN, enc_nums, mid_take (A := fix k 1 ++ (fix o 4 ++ (fix p 4 ++ fix q 4))) (B := fix a 4) (C := nums b) (by simp [encB]) (by simp [fix_length]) (fix_length _ _), val_fix]
  exact Nat.mod_eq_of_lt h
theorem enc_body (k o p q a : Nat) (b : ByteArray) : (txt (encB k o p q a b)).extract 17 (txt (encB k o p q a b)).size = b := by
  apply nums_inj
  rw [nums_rest, enc_nums]
  exact mid_drop (A := fix k 1 ++ (fix o 4 ++ (fix p 4 ++ (fix q 4 ++ fix a 4)))) (by simp [encB]) (by simp [fix_length])
theorem enc_dec {k o p q a : Nat} {b : ByteArray} (hc : chk k o p q a b.size = 0) (ho : o < 4294967296) (hp : p < 4294967296) (hq : q < 4294967296) (ha : a < 4294967296) : decC (txt (encB k o p q a b)) = 0 := by
  have hk := (chk_size hc).2
  rw [decC, enc_hdK _ _ _ _ _ _ (by omega), enc_hd1 _ _ _ _ _ _ ho, enc_hd5 _ _ _ _ _ _ hp, enc_hd9 _ _ _ _ _ _ hq, enc_hd13 _ _ _ _ _ _ ha, enc_size, show 17 + b.size - 17 = b.size by omega, hc]
theorem dec_fix (s : ByteArray) (k n : Nat) (h : k + n ≤ s.size) : fix (val (((nums s).drop k).take n)) n = ((nums s).drop k).take n := by
  have hl : (((nums s).drop k).take n).length = n := by rw [List.length_take, List.length_drop, nums_length]; omega
  have := fix_val _ (((nums_all s).drop k).take n)
  rwa [hl] at this
theorem take_drop_on (l : List Nat) (k n : Nat) : (l.drop k).take n ++ l.drop (k + n) = l.drop k := by
  rw [← List.drop_drop]
  exact List.take_append_drop n (l.drop k)
theorem dec_enc (s : ByteArray) (h : 17 ≤ s.size) : txt (encB (hdK s) (hdN s 1) (hdN s 5) (hdN s 9) (hdN s 13) (s.extract 17 s.size)) = s := by
  have e : encB (hdK s) (hdN s 1) (hdN s 5) (hdN s 9) (hdN s 13) (s.extract 17 s.size) = nums s := by
    unfold encB hdK hdN
    rw [dec_fix s 0 1 (by omega), dec_fix s 1 4 (by omega), dec_fix s 5 4 (by omega), dec_fix s 9 4 (by omega), dec_fix s 13 4 (by omega), nums_rest]
    simp only [List.nil_append, List.append_assoc]
    rw [take_drop_on _ 13 4, take_drop_on _ 9 4, take_drop_on _ 5 4, take_drop_on _ 1 4]
    exact take_drop_on (nums s) 0 1
  rw [e, txt_nums]

theorem eq_same (k o p q a : Int) (b : ByteArray) (w : World) : (Op.equalIn 10000 42 (.agg #[.int .i64 k, .int .u32 o, .int .u32 p, .int .u32 q, .int .u32 a, .string b]) (.agg #[.int .i64 k, .int .u32 o, .int .u32 p, .int .u32 q, .int .u32 a, .string b])).run Tryz.prog w = .ok true w := by
  have u3 := Tryz.underlying3
  have u9 := Tryz.underlying9
  have u22 := Tryz.underlying22
  have hS : Tryz.prog.underlying 42 = some (.struct (Tryz.prog.fieldsOf 42)) := by kernel_rfl
  have hp : Tryz.prog.stoodInHeld 42 = false := by kernel_rfl
  rw [show (10000 : Nat) = 9999 + 1 from rfl, run_equalIn_agg w 9999 42 _ _ hS hp]
  simp only [Program.fieldsOf, Tryz.underlying42]
  go_simp
end Go.Proofs.YtcadlcpccemkbaaGreatDoor.X
