/- Bytes and numbers, the highest byte first; texts. Pure. Xor, And, Equal. Lists held against each other. -/
import Derived.Test.YtcadlcpccemkbaaMRaRbWa
import Derived.Test.YtcadlcpccemkbaaMDEFM
namespace Go.Proofs.Ytcadlcpccemkbaa.X
open Go.RowKit

/- bytes as a number -/
def val : List Nat → Nat := List.foldl (fun x b => 256 * x + b) 0
theorem val_nil : val [] = 0 := rfl
theorem val_snoc (l : List Nat) (b : Nat) : val (l ++ [b]) = 256 * val l + b := by simp [val]

def Lt (n : Nat) (l : List Nat) : Prop := ∀ x ∈ l, x < n
theorem Lt.take {n : Nat} {l : List Nat} (h : Lt n l) (k : Nat) : Lt n (l.take k) := fun x hx => h x (List.mem_of_mem_take hx)
theorem Lt.drop {n : Nat} {l : List Nat} (h : Lt n l) (k : Nat) : Lt n (l.drop k) := fun x hx => h x (List.mem_of_mem_drop hx)
theorem Lt.append {n : Nat} {l m : List Nat} (h : Lt n l) (k : Lt n m) : Lt n (l ++ m) := fun x hx => (List.mem_append.1 hx).elim (h x) (k x)
theorem nums_all (s : ByteArray) : Lt 256 (nums s) := fun x hx => by
  obtain ⟨k, hk⟩ := List.mem_iff_getElem?.1 hx
  exact nums_lt hk

theorem snoc_ind {p : List Nat → Prop} (h0 : p []) (h1 : ∀ l b, p l → p (l ++ [b])) (l : List Nat) : p l := by
  have : ∀ l : List Nat, p l.reverse := by
    intro l
    induction l with
    | nil => exact h0
    | cons b l ih => rw [List.reverse_cons]; exact h1 _ _ ih
  have h := this l.reverse
  rwa [List.reverse_reverse] at h

theorem val_lt (l : List Nat) : Lt 256 l → val l < 256 ^ l.length := by
  refine snoc_ind (p := fun l => Lt 256 l → val l < 256 ^ l.length) (fun _ => by simp [val]) (fun l b ih h => ?_) l
  have h1 := ih (fun x hx => h x (List.mem_append_left _ hx))
  have h2 : b < 256 := h b (by simp)
  rw [val_snoc, List.length_append, List.length_singleton, Nat.pow_succ]
  omega
theorem val_lt64 {l : List Nat} (h : Lt 256 l) (hl : l.length ≤ 8) : val l < 18446744073709551616 :=
  Nat.lt_of_lt_of_le (val_lt l h) (Nat.pow_le_pow_right (n := 256) (by omega) hl)

/- a number in so many bytes -/
def fix (x : Nat) : Nat → List Nat
  | 0 => []
  | n + 1 => fix (x / 256) n ++ [x % 256]
theorem fix_length : ∀ (n x : Nat), (fix x n).length = n
  | 0, _ => rfl
  | n + 1, x => by rw [fix, List.length_append, fix_length n]; rfl
theorem fix_lt : ∀ (n x : Nat), Lt 256 (fix x n)
  | 0, _ => fun y hy => by cases hy
  | n + 1, x => (fix_lt n _).append (fun y hy => by simp at hy; omega)
theorem fix_mod : ∀ (n x : Nat), fix (x % 256 ^ n) n = fix x n
  | 0, _ => rfl
  | n + 1, x => by
    rw [fix, fix]
    have e1 : x % 256 ^ (n + 1) % 256 = x % 256 := Nat.mod_mod_of_dvd _ ⟨256 ^ n, by rw [Nat.pow_succ, Nat.mul_comm]⟩
    have e2 : x % 256 ^ (n + 1) / 256 = x / 256 % 256 ^ n := by rw [Nat.pow_succ, Nat.mul_comm, Nat.mod_mul_right_div_self]
    rw [e1, e2, fix_mod n]
theorem val_fix : ∀ (n x : Nat), val (fix x n) = x % 256 ^ n
  | 0, x => by simp [fix, val, Nat.mod_one]
  | n + 1, x => by
    rw [fix, val_snoc, val_fix n, Nat.pow_succ, Nat.mul_comm (256 ^ n) 256, Nat.mod_mul]
    omega
theorem fix_val (l : List Nat) : Lt 256 l → fix (val l) l.length = l := by
  refine snoc_ind (p := fun l => Lt 256 l → fix (val l) l.length = l) (fun _ => rfl) (fun l b ih h => ?_) l
  have h1 := ih (fun x hx => h x (List.mem_append_left _ hx))
  have h2 : b < 256 := h b (by simp)
  rw [List.length_append, List.length_singleton, fix, val_snoc, show (256 * val l + b) / 256 = val l by omega, show (256 * val l + b) % 256 = b by omega, h1]

/- texts -/
theorem txt_nums' (s : ByteArray) : txt (nums s) = s := txt_nums s
theorem nums_inj {s t : ByteArray} (h : nums s = nums t) : s = t := by rw [← txt_nums s, ← txt_nums t, h]
theorem nums_append (s t : ByteArray) : nums (s ++ t) = nums s ++ nums t := by
  simp [nums, ByteArray.data_append]
theorem nums_extract (s : ByteArray) (a b : Nat) : nums (s.extract a b) = ((nums s).take b).drop a := by
  unfold nums
  rw [ByteArray.data_extract, Array.toList_extract, List.extract_eq_take_drop, List.map_take, List.map_drop, List.drop_take]
theorem nums_txt {l : List Nat} (h : Lt 256 l) : nums (txt l) = l := by
  have e : nums (txt l) = l.map (fun n : Nat => n % 256) := by
    simp [nums, txt, strOfNums]
  rw [e]
  conv => rhs; rw [← List.map_id l]
  exact List.map_congr_left (fun x hx => Nat.mod_eq_of_lt (h x hx))
theorem txt_size {l : List Nat} (h : Lt 256 l) : (txt l).size = l.length := by rw [← nums_length, nums_txt h]
theorem txt_append {l m : List Nat} (h : Lt 256 l) (k : Lt 256 m) : txt l ++ txt m = txt (l ++ m) := by
  apply nums_inj
  rw [nums_append, nums_txt h, nums_txt k, nums_txt (h.append k)]
theorem txt_of {s : ByteArray} {l : List Nat} (h : nums s = l) : s = txt l := by rw [← h, txt_nums]
theorem nums_empty : nums ⟨#[]⟩ = [] := rfl
theorem size_nums (s : ByteArray) : s.size = (nums s).length := (nums_length s).symm
end Go.Proofs.Ytcadlcpccemkbaa.X

namespace Go.Proofs.Ytcadlcpccemkbaa.X
open Go.RowKit
set_option maxRecDepth 100000
attribute [local go_sem] not_any mf_any

theorem after4 {w w1 : World} {o1 o2 o3 o4 : Obj} (hb : Below ((((w.alloc o1).alloc o2).alloc o3).alloc o4).heap.size ((((w.alloc o1).alloc o2).alloc o3).alloc o4) w1) :
    w1.heap[w.heap.size]? = some o1 ∧ w1.heap[w.heap.size + 1]? = some o2 ∧ w1.heap[w.heap.size + 2]? = some o3 ∧ w1.heap[w.heap.size + 3]? = some o4 ∧ Below w.heap.size w w1 := by
  have h := after3 (w := w.alloc o1) hb
  have e : (w.alloc o1).heap.size = w.heap.size + 1 := by simp
  rw [e] at h
  obtain ⟨h1, h2, h3, h4⟩ := h
  exact ⟨(h4.block _ (by omega)).trans (heap_alloc_new _ _), h1, h2, h3, ((Below.refl _ _).alloc (Nat.le_refl _) _).trans (h4.mono (by omega))⟩

theorem xor_bits : ∀ x y, x < 18446744073709551616 → y < 18446744073709551616 → x ^^^ y < 18446744073709551616 ∧ ∀ j, (x ^^^ y).testBit j = (x.testBit j ^^ y.testBit j) :=
  fun x y hx hy => ⟨Nat.xor_lt_two_pow (n := 64) hx hy, fun j => by rw [Nat.testBit_xor]⟩
theorem and_bits : ∀ x y, x < 18446744073709551616 → y < 18446744073709551616 → x &&& y < 18446744073709551616 ∧ ∀ j, (x &&& y).testBit j = (x.testBit j && y.testBit j) :=
  fun x y hx _ => ⟨Nat.lt_of_le_of_lt Nat.and_le_left hx, fun j => by rw [Nat.testBit_and]⟩

theorem chunks_inj {la lb : List Bool} (hl : la.length = lb.length) (h : chunks 64 la = chunks 64 lb) : la = lb := by
  apply bool_ext hl
  intro j hj
  have hk : j / 64 < need la.length 64 := by rw [need64]; omega
  have h1 := chunks_get hk
  rw [h, chunks_get (by rw [← hl]; exact hk)] at h1
  have h2 := congrArg (fun x => x.testBit (j % 64)) (Option.some.inj h1)
  simp only [chunk_testBit, Nat.div_add_mod] at h2
  have : j % 64 < 64 := Nat.mod_lt _ (by omega)
  simp [this] at h2
  exact h2.symm

/- words in memory, to be read -/
structure Nl (w : World) (m : Nat) (a : Option Addr) (ws : List Nat) : Prop where
  len : ws.length = m
  at' : ∀ (j : Nat) (x : Nat), ws[j]? = some x → ∃ g o, a = some ⟨g, o, none⟩ ∧ w.cell? ⟨g, o + j, none⟩ = some (.int .u64 (x : Int))

theorem Vc.nl {b : Nat} {w : World} {n : Nat} {a : Option Addr} {l : List Bool} (h : Vc b w n a l) : Nl w (need n 64) a (chunks 64 l) :=
  ⟨by rw [chunks_length, h.len], fun j x hj => by
    obtain ⟨h1, h2⟩ := chunks_get' hj
    rw [h.len] at h1
    obtain ⟨g, h3, _, _, h4⟩ := h.cell h1
    exact ⟨g, 0, h3, by rw [Nat.zero_add, h2]; exact h4⟩⟩

theorem Nl.below {B : Nat} {w w' : World} {m : Nat} {a : Option Addr} {ws : List Nat} (h : Nl w m a ws) (hB : Below B w w') (hs : w.heap.size ≤ B) : Nl w' m a ws :=
  ⟨h.len, fun j x hj => by
    obtain ⟨g, o, h1, h2⟩ := h.at' j x hj
    exact ⟨g, o, h1, (hB.cell (p := ⟨g, o + j, none⟩) (by have := lt_cell h2; simp; omega)).trans h2⟩⟩

theorem take_succ_eq {α : Type} {xs ys : List α} {k : Nat} {x : α} (h : xs.take k = ys.take k) (h1 : xs[k]? = some x) (h2 : ys[k]? = some x) : xs.take (k + 1) = ys.take (k + 1) := by
  rw [List.take_add_one, List.take_add_one, h, h1, h2]

theorem gr_drewN (w : World) (q : Nat) : ∃ q' os, w.drewN q = Sort.grow (w.drewN q') os := ⟨q, #[], by rw [Sort.grow_empty]⟩

end Go.Proofs.Ytcadlcpccemkbaa.X

namespace Go.Proofs.Ytcadlcpccemkbaa.X
open Go.RowKit
set_option maxRecDepth 100000
attribute [local go_sem] not_any mf_any

end Go.Proofs.Ytcadlcpccemkbaa.X
