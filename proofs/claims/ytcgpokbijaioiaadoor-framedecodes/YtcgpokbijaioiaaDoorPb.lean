/- Bytes and numbers, the highest byte first; texts. Pure. -/
import Derived.Test.YtcgpokbijaioiaaDoorWa
namespace Go.Proofs.YtcgpokbijaioiaaDoor
open Go.RowKit

/- bytes as a number -/
def val : List Nat → Nat := List.foldl (fun x b => 256 * x + b) 0
theorem val_nil : val [] = 0 := rfl
theorem val_snoc (l : List Nat) (b : Nat) : val (l ++ [b]) = 256 * val l + b := by simp [val]

def Lt (n : Nat) (l : List Nat) : Prop := ∀ x ∈ l, x < n
theorem Lt.take {n : Nat} {l : List Nat} (h : Lt n l) (k : Nat) : Lt n (l.take k) := fun x hx => h x (List.mem_of_mem_take hx)
theorem Lt.drop {n : Nat} {l : List Nat} (h : Lt n l) (k : Nat) : Lt n (l.drop k) := fun x hx => h x (List.mem_of_mem_drop hx)
theorem Lt.append {n : Nat} {l m : List Nat} (h : Lt n l) (k : Lt n m) : Lt n (l ++ m) := fun x hx => (List.mem_append.1 hx).elim (h x) (k x)
theorem nums_all (s : ByteArray) : Lt 256 (nums s) := fun x hx => by
  obtain ⟨k, hk⟩ := List.mem_iff_getElem?.1 hx
  exact nums_lt hk

theorem snoc_ind {p : List Nat → Prop} (h0 : p []) (h1 : ∀ l b, p l → p (l ++ [b])) (l : List Nat) : p l := by
  have : ∀ l : List Nat, p l.reverse := by
    intro l
    induction l with
    | nil => exact h0
    | cons b l ih => rw [List.reverse_cons]; exact h1 _ _ ih
  have h := this l.reverse
  rwa [List.reverse_reverse] at h

theorem val_lt (l : List Nat) : Lt 256 l → val l < 256 ^ l.length := by
  refine snoc_ind (p := fun l => Lt 256 l → val l < 256 ^ l.length) (fun _ => by simp [val]) (fun l b ih h => ?_) l
  have h1 := ih (fun x hx => h x (List.mem_append_left _ hx))
  have h2 : b < 256 := h b (by simp)
  rw [val_snoc, List.length_append, List.length_singleton, Nat.pow_succ]
  omega
theorem val_lt64 {l : List Nat} (h : Lt 256 l) (hl : l.length ≤ 8) : val l < 18446744073709551616 :=
  Nat.lt_of_lt_of_le (val_lt l h) (Nat.pow_le_pow_right (n := 256) (by omega) hl)

/- a number in so many bytes -/
def fix (x : Nat) : Nat → List Nat
  | 0 => []
  | n + 1 => fix (x / 256) n ++ [x % 256]
theorem fix_length : ∀ (n x : Nat), (fix x n).length = n
  | 0, _ => rfl
  | n + 1, x => by rw [fix, List.length_append, fix_length n]; rfl
theorem fix_lt : ∀ (n x : Nat), Lt 256 (fix x n)
  | 0, _ => fun y hy => by cases hy
  | n + 1, x => (fix_lt n _).append (fun y hy => by simp at hy; omega)
theorem fix_mod : ∀ (n x : Nat), fix (x % 256 ^ n) n = fix x n
  | 0, _ => rfl
  | n + 1, x => by
    rw [fix, fix]
    have e1 : x % 256 ^ (n + 1) % 256 = x % 256 := Nat.mod_mod_of_dvd _ ⟨256 ^ n, by rw [Nat.pow_succ, Nat.mul_comm]⟩
    have e2 : x % 256 ^ (n + 1) / 256 = x / 256 % 256 ^ n := by rw [Nat.pow_succ, Nat.mul_comm, Nat.mod_mul_right_div_self]
    rw [e1, e2, fix_mod n]
theorem val_fix : ∀ (n x : Nat), val (fix x n) = x % 256 ^ n
  | 0, x => by simp [fix, val, Nat.mod_one]
  | n + 1, x => by
    rw [fix, val_snoc, val_fix n, Nat.pow_succ, Nat.mul_comm (256 ^ n) 256, Nat.mod_mul]
    omega
theorem fix_val (l : List Nat) : Lt 256 l → fix (val l) l.length = l := by
  refine snoc_ind (p := fun l => Lt 256 l → fix (val l) l.length = l) (fun _ => rfl) (fun l b ih h => ?_) l
  have h1 := ih (fun x hx => h x (List.mem_append_left _ hx))
  have h2 : b < 256 := h b (by simp)
  rw [List.length_append, List.length_singleton, fix, val_snoc, show (256 * val l + b) / 256 = val l by omega, show (256 * val l + b) % 256 = b by omega, h1]

/- texts -/
theorem txt_nums' (s : ByteArray) : txt (nums s) = s := txt_nums s
theorem nums_inj {s t : ByteArray} (h : nums s = nums t) : s = t := by rw [← txt_nums s, ← txt_nums t, h]
theorem nums_append (s t : ByteArray) : nums (s ++ t) = nums s ++ nums t := by
  simp [nums, ByteArray.data_append]
theorem nums_extract (s : ByteArray) (a b : Nat) : nums (s.extract a b) = ((nums s).take b).drop a := by
  unfold nums
  rw [ByteArray.data_extract, Array.toList_extract, List.extract_eq_take_drop, List.map_take, List.map_drop, List.drop_take]
theorem nums_txt {l : List Nat} (h : Lt 256 l) : nums (txt l) = l := by
  have e : nums (txt l) = l.map (fun n : Nat => n % 256) := by
    simp [nums, txt, strOfNums]
  rw [e]
  conv => rhs; rw [← List.map_id l]
  exact List.map_congr_left (fun x hx => Nat.mod_eq_of_lt (h x hx))
theorem txt_size {l : List Nat} (h : Lt 256 l) : (txt l).size = l.length := by rw [← nums_length, nums_txt h]
theorem txt_append {l m : List Nat} (h : Lt 256 l) (k : Lt 256 m) : txt l ++ txt m = txt (l ++ m) := by
  apply nums_inj
  rw [nums_append, nums_txt h, nums_txt k, nums_txt (h.append k)]
theorem txt_of {s : ByteArray} {l : List Nat} (h : nums s = l) : s = txt l := by rw [← h, txt_nums]
theorem nums_empty : nums ⟨#[]⟩ = [] := rfl
theorem size_nums (s : ByteArray) : s.size = (nums s).length := (nums_length s).symm
end Go.Proofs.YtcgpokbijaioiaaDoor
