/- The small functions of package wire, and fault.New. Bytes and numbers, the highest byte first; texts. Pure. Xor, And, Equal. -/
import Derived.Test.YtmmhfipdolbinaaGreatDoorRb
import Derived.Lib.BufferWrite
import Derived.Lib.UnsafeStr
import Derived.Lib.Hide
import Derived.Laws.MakeOwn
import Derived.Test.YtmmhfipdolbinaaGreatDoorMEF
namespace Go.Proofs.YtmmhfipdolbinaaGreatDoor
open Go.RowKit
set_option maxRecDepth 100000
attribute [local go_sem] not_any mf_any

structure Shy (p : Prop) : Prop where
  out : p

/- a reader in memory: its bytes, how many are read, the first fault and its field -/
def rdr (s : ByteArray) (k : Nat) (c : Int) (f : ByteArray) : Obj := .cells #[.bool true, .string s, .int .i64 (k : Int), .int .i64 c, .string f] 42 (0, 0)

theorem rd_cells {w : World} {g k : Nat} {s f : ByteArray} {c : Int} (h : w.heap[g]? = some (rdr s k c f)) :
    w.cell? ⟨g, 0, none⟩ = some (.bool true) ∧ w.cell? ⟨g, 1, none⟩ = some (.string s) ∧ w.cell? ⟨g, 2, none⟩ = some (.int .i64 (k : Int)) ∧ w.cell? ⟨g, 3, none⟩ = some (.int .i64 c) ∧ w.cell? ⟨g, 4, none⟩ = some (.string f) ∧ g < w.heap.size :=
  ⟨by rw [cell_of_row w g 0 _ _ _ h]; rfl, by rw [cell_of_row w g 1 _ _ _ h]; rfl, by rw [cell_of_row w g 2 _ _ _ h]; rfl, by rw [cell_of_row w g 3 _ _ _ h]; rfl, by rw [cell_of_row w g 4 _ _ _ h]; rfl, lt_heap h⟩
theorem rd_free {w : World} {g k : Nat} {s f : ByteArray} {c : Int} (h : w.heap[g]? = some (rdr s k c f)) :
    w.frozen? ⟨g, 2, none⟩ = false ∧ w.frozen? ⟨g, 3, none⟩ = false ∧ w.frozen? ⟨g, 4, none⟩ = false :=
  ⟨frozen_of_row w g 2 _ _ h, frozen_of_row w g 3 _ _ h, frozen_of_row w g 4 _ _ h⟩
theorem rd_at {w : World} {g k : Nat} {s f : ByteArray} {c : Int} (h : w.heap[g]? = some (rdr s k c f)) (k' : Nat) : (w.setCell ⟨g, 2, none⟩ (.int .i64 (k' : Int))).heap[g]? = some (rdr s k' c f) := by
  rw [heap_setCell_same w g 2 _ _ _ h]; rfl
theorem rd_fault {w : World} {g k : Nat} {s f : ByteArray} {c : Int} (h : w.heap[g]? = some (rdr s k c f)) (c' : Int) (f' : ByteArray) : ((w.setCell ⟨g, 3, none⟩ (.int .i64 c')).setCell ⟨g, 4, none⟩ (.string f')).heap[g]? = some (rdr s k c' f') := by
  rw [heap_setCell_same _ g 4 _ _ _ (heap_setCell_same w g 3 _ _ _ h)]; rfl

/- all but one row is kept -/
structure But (b : Nat) (w w' : World) : Prop where
  os : w'.os = w.os
  tape : w'.tape = w.tape
  output : w'.output = w.output
  size : w.heap.size ≤ w'.heap.size
  block : ∀ k, k < w.heap.size → k ≠ b → w'.heap[k]? = w.heap[k]?
theorem But.refl (b : Nat) (w : World) : But b w w := ⟨rfl, rfl, rfl, Nat.le_refl _, fun _ _ _ => rfl⟩
theorem But.trans {b : Nat} {w1 w2 w3 : World} (h : But b w1 w2) (k : But b w2 w3) : But b w1 w3 :=
  ⟨k.os.trans h.os, k.tape.trans h.tape, k.output.trans h.output, Nat.le_trans h.size k.size, fun i hi hb => (k.block i (Nat.lt_of_lt_of_le hi h.size) hb).trans (h.block i hi hb)⟩
theorem But.set (b o : Nat) (w : World) (v : Value) : But b w (w.setCell ⟨b, o, none⟩ v) := by
  have h := (Below.refl b w).setCell (p := ⟨b, o, none⟩) (Nat.le_refl _) v
  exact ⟨h.1, h.2, h.3, h.4, fun k _ hb => heap_setCell_other w _ k v hb⟩
theorem But.drew {b : Nat} {w w' : World} (h : But b w w') : But b w w'.drew := ⟨h.1, h.2, h.3, h.4, h.5⟩
theorem But.drewN {b : Nat} {w w' : World} (h : But b w w') (q : Nat) : But b w (w'.drewN q) := ⟨h.1, h.2, h.3, h.4, h.5⟩
theorem But.below {b B : Nat} {w0 w w' : World} (h : But b w w') (hb : Below B w0 w) (hB : B ≤ b) (hs : B ≤ w.heap.size) : Below B w0 w' :=
  hb.trans ⟨h.os, h.tape, h.output, h.size, fun k hk => h.block k (by omega) (by omega)⟩
theorem But.of_below {b : Nat} {w w' : World} (h : Below w.heap.size w w') : But b w w' := ⟨h.1, h.2, h.3, h.4, fun k hk _ => h.5 k hk⟩

theorem newReader_any (s : ByteArray) (w : World) :
    Calls Tryz.prog 5 #[.string s] w fun e w' => e = .returned (.pointer (some ⟨w.heap.size, 0, none⟩)) ∧ w' = w.alloc (rdr s 0 0 ⟨#[]⟩) := by
  go_enter Tryz.func5, Tryz.ntmps5
  go_wp2
  go_ret
  exact ⟨rfl, rfl⟩

theorem isNone_no (g : Nat) (w : World) (h : w.cell? ⟨g, 0, none⟩ = some (.bool true)) : Calls Tryz.prog 65 #[.pointer (some ⟨g, 0, none⟩)] w fun e w' => e = .returned (.bool false) ∧ w' = w := by
  go_enter Tryz.func65, Tryz.ntmps65
  go_wp2
  go_ret
  exact ⟨rfl, rfl⟩

theorem isOver_any (g k : Nat) (s f : ByteArray) (c : Int) (w : World) (h : w.heap[g]? = some (rdr s k c f)) : Calls Tryz.prog 66 #[.pointer (some ⟨g, 0, none⟩)] w fun e w' => e = .returned (.bool (c != 0)) ∧ w' = w := by
  obtain ⟨c0, c1, c2, c3, c4, lt⟩ := rd_cells h
  have k0 := hide1 (isNone_no g w c0)
  clear h
  go_enter Tryz.func66, Tryz.ntmps66
  go_wp2_with (go_at_call 65; refine k0.out.mono ?_; rintro e w' ⟨rfl, rfl⟩)
  go_ret
  exact ⟨rfl, rfl⟩

theorem at_any (g k : Nat) (s f : ByteArray) (c : Int) (w : World) (h : w.heap[g]? = some (rdr s k c f)) : Calls Tryz.prog 28 #[.pointer (some ⟨g, 0, none⟩)] w fun e w' => e = .returned (.int .i64 (k : Int)) ∧ w' = w := by
  obtain ⟨c0, c1, c2, c3, c4, lt⟩ := rd_cells h
  have k0 := hide1 (isNone_no g w c0)
  clear h
  go_enter Tryz.func28, Tryz.ntmps28
  go_wp2_with (go_at_call 65; refine k0.out.mono ?_; rintro e w' ⟨rfl, rfl⟩)
  go_ret
  exact ⟨rfl, rfl⟩

theorem fail_over (g k : Nat) (s f f' : ByteArray) (c c' : Int) (w : World) (h : w.heap[g]? = some (rdr s k c f)) (hc : c ≠ 0) :
    Calls Tryz.prog 27 #[.pointer (some ⟨g, 0, none⟩), .string f', .int .i64 c'] w fun e w' => e = .returned (.tuple #[]) ∧ w' = w := by
  have k0 := hide1 (isOver_any g k s f c w h)
  rw [show (c != 0) = true by simpa using hc] at k0
  clear h
  go_enter Tryz.func27, Tryz.ntmps27
  go_wp2_with (go_at_call 66; refine k0.out.mono ?_; rintro e w' ⟨rfl, rfl⟩)
  refine bodyPost_ret (results_none rfl _ _ _) rfl ?_
  exact ⟨rfl, rfl⟩

theorem fail_any (g k : Nat) (s f f' : ByteArray) (c' : Int) (w : World) (h : w.heap[g]? = some (rdr s k 0 f)) (hc : c' ≠ 0) :
    Calls Tryz.prog 27 #[.pointer (some ⟨g, 0, none⟩), .string f', .int .i64 c'] w fun e w' => e = .returned (.tuple #[]) ∧ w' = (w.setCell ⟨g, 3, none⟩ (.int .i64 c')).setCell ⟨g, 4, none⟩ (.string f') := by
  have k0 := hide1 (isOver_any g k s f 0 w h)
  obtain ⟨c0, c1, c2, c3, c4, lt⟩ := rd_cells h
  obtain ⟨f2, f3, f4⟩ := rd_free h
  have hc' : (c' == 0) = false := by simpa using hc
  clear h
  go_enter Tryz.func27, Tryz.ntmps27
  go_wp2_with (go_at_call 66; refine k0.out.mono ?_; rintro e w' ⟨rfl, rfl⟩)
  go_end0
  exact ⟨rfl, rfl⟩

theorem new_none (f : ByteArray) (w : World) : Calls Tryz.prog 67 #[.int .i64 0, .string f] w fun e w' => e = .returned .nilIface ∧ w' = w := by
  go_enter Tryz.func67, Tryz.ntmps67
  go_wp2
  go_ret
  exact ⟨rfl, rfl⟩

def flt (c : Int) (f : ByteArray) : Obj := .cells #[.int .i64 c, .string f, .nilIface] 150 (0, 0)
theorem new_some (c : Int) (f : ByteArray) (w : World) (hc : c ≠ 0) : Calls Tryz.prog 67 #[.int .i64 c, .string f] w fun e w' => e = .returned (.iface 147 (.pointer (some ⟨w.heap.size, 0, none⟩))) ∧ w' = w.alloc (flt c f) := by
  have hc' : (c == 0) = false := by simpa using hc
  go_enter Tryz.func67, Tryz.ntmps67
  go_wp2
  go_ret
  exact ⟨rfl, rfl⟩

theorem err_none (g k : Nat) (s f : ByteArray) (w : World) (h : w.heap[g]? = some (rdr s k 0 f)) : Calls Tryz.prog 29 #[.pointer (some ⟨g, 0, none⟩)] w fun e w' => e = .returned .nilIface ∧ ∃ q, w' = w.drewN q := by
  obtain ⟨c0, c1, c2, c3, c4, lt⟩ := rd_cells h
  have k0 := hide1 (isNone_no g w c0)
  have k1 := fun w => hide1 (new_none f w)
  have mx := mixed
  clear h
  go_enter Tryz.func29, Tryz.ntmps29
  go_wp2_with (go_at_call 65; refine k0.out.mono ?_; rintro e w' ⟨rfl, rfl⟩)
  go_quiet ((go_at_call 67; exact Calls.quiet_of_same (k1 _).out))
  go_wp2
  go_ret
  exact ⟨rfl, nq, rfl⟩

set_option maxHeartbeats 1000000 in
theorem err_some (g k : Nat) (s f : ByteArray) (c : Int) (w : World) (h : w.heap[g]? = some (rdr s k c f)) (hc : c ≠ 0) : Calls Tryz.prog 29 #[.pointer (some ⟨g, 0, none⟩)] w fun e w' => e = .returned (.iface 147 (.pointer (some ⟨w.heap.size, 0, none⟩))) ∧ ∃ q, w' = (w.alloc (flt c f)).drewN q := by
  obtain ⟨c0, c1, c2, c3, c4, lt⟩ := rd_cells h
  have k0 := hide1 (isNone_no g w c0)
  have k1 := fun w => hide1 (new_some c f w hc)
  clear h
  go_enter Tryz.func29, Tryz.ntmps29
  go_wp2_with (go_at_call 65; refine k0.out.mono ?_; rintro e w' ⟨rfl, rfl⟩)
  go_region_with (go_at_call 67; refine (k1 _).out.mono ?_; rintro e w' ⟨rfl, rfl⟩)
  all_goals
    go_wp2
    go_ret
    exact ⟨rfl, 1, rfl⟩

theorem first_no (s : ByteArray) (n : Int) (w : World) (h : (s.size : Int) < n) : Calls Tryz.prog 49 #[.string s, .int .i64 n] w fun e w' => e = .returned (.tuple #[.string ⟨#[]⟩, .int .i64 12]) ∧ w' = w := by
  go_enter Tryz.func49, Tryz.ntmps49
  go_wp2
  go_ret2
  exact ⟨rfl, rfl⟩

theorem first_yes (s : ByteArray) (n : Nat) (w : World) (h : n ≤ s.size) : Calls Tryz.prog 49 #[.string s, .int .i64 (n : Int)] w fun e w' => e = .returned (.tuple #[.string (s.extract 0 n), .int .i64 0]) ∧ w' = w := by
  have h' : ¬ ((s.size : Int) < (n : Int)) := by omega
  go_enter Tryz.func49, Tryz.ntmps49
  go_wp2
  go_ret2
  exact ⟨rfl, rfl⟩

theorem bytesFor_any (n : Nat) (w : World) (h : n ≤ 33554432) : Calls Tryz.prog 53 #[.int .i64 (n : Int)] w fun e w' => e = .returned (.int .i64 (((n + 7) / 8 : Nat) : Int)) ∧ w' = w := by
  go_enter Tryz.func53, Tryz.ntmps53
  go_wp2
  go_ret
  refine ⟨?_, rfl⟩
  show Ending.returned (.int .i64 (((n : Int) + 8 - 1) / 8)) = _
  rw [show ((n : Int) + 8 - 1) / 8 = (((n + 7) / 8 : Nat) : Int) by omega]

theorem isWidth_any (n : Int) (w : World) : Calls Tryz.prog 52 #[.int .i64 n] w fun e w' => e = .returned (.bool (decide (1 ≤ n) && decide (n ≤ 64))) ∧ w' = w := by
  go_enter Tryz.func52, Tryz.ntmps52
  by_cases h : 1 ≤ n
  · go_wp2
    go_ret
    exact ⟨by simp [h], rfl⟩
  · have h' : n < 1 := by omega
    go_wp2
    go_ret
    exact ⟨by simp; omega, rfl⟩

end Go.Proofs.YtmmhfipdolbinaaGreatDoor

namespace Go.Proofs.YtmmhfipdolbinaaGreatDoor
open Go.RowKit

/- bytes as a number -/
def val : List Nat → Nat := List.foldl (fun x b => 256 * x + b) 0
theorem val_nil : val [] = 0 := rfl
theorem val_snoc (l : List Nat) (b : Nat) : val (l ++ [b]) = 256 * val l + b := by simp [val]

def Lt (n : Nat) (l : List Nat) : Prop := ∀ x ∈ l, x < n
theorem Lt.take {n : Nat} {l : List Nat} (h : Lt n l) (k : Nat) : Lt n (l.take k) := fun x hx => h x (List.mem_of_mem_take hx)
theorem Lt.drop {n : Nat} {l : List Nat} (h : Lt n l) (k : Nat) : Lt n (l.drop k) := fun x hx => h x (List.mem_of_mem_drop hx)
theorem Lt.append {n : Nat} {l m : List Nat} (h : Lt n l) (k : Lt n m) : Lt n (l ++ m) := fun x hx => (List.mem_append.1 hx).elim (h x) (k x)
theorem nums_all (s : ByteArray) : Lt 256 (nums s) := fun x hx => by
  obtain ⟨k, hk⟩ := List.mem_iff_getElem?.1 hx
  exact nums_lt hk

theorem snoc_ind {p : List Nat → Prop} (h0 : p []) (h1 : ∀ l b, p l → p (l ++ [b])) (l : List Nat) : p l := by
  have : ∀ l : List Nat, p l.reverse := by
    intro l
    induction l with
    | nil => exact h0
    | cons b l ih => rw [List.reverse_cons]; exact h1 _ _ ih
  have h := this l.reverse
  rwa [List.reverse_reverse] at h

theorem val_lt (l : List Nat) : Lt 256 l → val l < 256 ^ l.length := by
  refine snoc_ind (p := fun l => Lt 256 l → val l < 256 ^ l.length) (fun _ => by simp [val]) (fun l b ih h => ?_) l
  have h1 := ih (fun x hx => h x (List.mem_append_left _ hx))
  have h2 : b < 256 := h b (by simp)
  rw [val_snoc, List.length_append, List.length_singleton, Nat.pow_succ]
  omega
theorem val_lt64 {l : List Nat} (h : Lt 256 l) (hl : l.length ≤ 8) : val l < 18446744073709551616 :=
  Nat.lt_of_lt_of_le (val_lt l h) (Nat.pow_le_pow_right (n := 256) (by omega) hl)

/- a number in so many bytes -/
def fix (x : Nat) : Nat → List Nat
  | 0 => []
  | n + 1 => fix (x / 256) n ++ [x % 256]
theorem fix_length : ∀ (n x : Nat), (fix x n).length = n
  | 0, _ => rfl
  | n + 1, x => by rw [fix, List.length_append, fix_length n]; rfl
theorem fix_lt : ∀ (n x : Nat), Lt 256 (fix x n)
  | 0, _ => fun y hy => by cases hy
  | n + 1, x => (fix_lt n _).append (fun y hy => by simp at hy; omega)
theorem fix_mod : ∀ (n x : Nat), fix (x % 256 ^ n) n = fix x n
  | 0, _ => rfl
  | n + 1, x => by
    rw [fix, fix]
    have e1 : x % 256 ^ (n + 1) % 256 = x % 256 := Nat.mod_mod_of_dvd _ ⟨256 ^ n, by rw [Nat.pow_succ, Nat.mul_comm]⟩
    have e2 : x % 256 ^ (n + 1) / 256 = x / 256 % 256 ^ n := by rw [Nat.pow_succ, Nat.mul_comm, Nat.mod_mul_right_div_self]
    rw [e1, e2, fix_mod n]
theorem val_fix : ∀ (n x : Nat), val (fix x n) = x % 256 ^ n
  | 0, x => by simp [fix, val, Nat.mod_one]
  | n + 1, x => by
    rw [fix, val_snoc, val_fix n, Nat.pow_succ, Nat.mul_comm (256 ^ n) 256, Nat.mod_mul]
    omega
theorem fix_val (l : List Nat) : Lt 256 l → fix (val l) l.length = l := by
  refine snoc_ind (p := fun l => Lt 256 l → fix (val l) l.length = l) (fun _ => rfl) (fun l b ih h => ?_) l
  have h1 := ih (fun x hx => h x (List.mem_append_left _ hx))
  have h2 : b < 256 := h b (by simp)
  rw [List.length_append, List.length_singleton, fix, val_snoc, show (256 * val l + b) / 256 = val l by omega, show (256 * val l + b) % 256 = b by omega, h1]

/- texts -/
theorem txt_nums' (s : ByteArray) : txt (nums s) = s := txt_nums s
theorem nums_inj {s t : ByteArray} (h : nums s = nums t) : s = t := by rw [← txt_nums s, ← txt_nums t, h]
theorem nums_append (s t : ByteArray) : nums (s ++ t) = nums s ++ nums t := by
  simp [nums, ByteArray.data_append]
theorem nums_extract (s : ByteArray) (a b : Nat) : nums (s.extract a b) = ((nums s).take b).drop a := by
  unfold nums
  rw [ByteArray.data_extract, Array.toList_extract, List.extract_eq_take_drop, List.map_take, List.map_drop, List.drop_take]
theorem nums_txt {l : List Nat} (h : Lt 256 l) : nums (txt l) = l := by
  have e : nums (txt l) = l.map (fun n : Nat => n % 256) := by
    simp [nums, txt, strOfNums]
  rw [e]
  conv => rhs; rw [← List.map_id l]
  exact List.map_congr_left (fun x hx => Nat.mod_eq_of_lt (h x hx))
theorem txt_size {l : List Nat} (h : Lt 256 l) : (txt l).size = l.length := by rw [← nums_length, nums_txt h]
theorem txt_append {l m : List Nat} (h : Lt 256 l) (k : Lt 256 m) : txt l ++ txt m = txt (l ++ m) := by
  apply nums_inj
  rw [nums_append, nums_txt h, nums_txt k, nums_txt (h.append k)]
theorem txt_of {s : ByteArray} {l : List Nat} (h : nums s = l) : s = txt l := by rw [← h, txt_nums]
theorem nums_empty : nums ⟨#[]⟩ = [] := rfl
theorem size_nums (s : ByteArray) : s.size = (nums s).length := (nums_length s).symm
end Go.Proofs.YtmmhfipdolbinaaGreatDoor

namespace Go.Proofs.YtmmhfipdolbinaaGreatDoor
open Go.RowKit
set_option maxRecDepth 100000
attribute [local go_sem] not_any mf_any field_words

theorem after4 {w w1 : World} {o1 o2 o3 o4 : Obj} (hb : Below ((((w.alloc o1).alloc o2).alloc o3).alloc o4).heap.size ((((w.alloc o1).alloc o2).alloc o3).alloc o4) w1) :
    w1.heap[w.heap.size]? = some o1 ∧ w1.heap[w.heap.size + 1]? = some o2 ∧ w1.heap[w.heap.size + 2]? = some o3 ∧ w1.heap[w.heap.size + 3]? = some o4 ∧ Below w.heap.size w w1 := by
  have h := after3 (w := w.alloc o1) hb
  have e : (w.alloc o1).heap.size = w.heap.size + 1 := by simp
  rw [e] at h
  obtain ⟨h1, h2, h3, h4⟩ := h
  exact ⟨(h4.block _ (by omega)).trans (heap_alloc_new _ _), h1, h2, h3, ((Below.refl _ _).alloc (Nat.le_refl _) _).trans (h4.mono (by omega))⟩

theorem xor_bits : ∀ x y, x < 18446744073709551616 → y < 18446744073709551616 → x ^^^ y < 18446744073709551616 ∧ ∀ j, (x ^^^ y).testBit j = (x.testBit j ^^ y.testBit j) :=
  fun x y hx hy => ⟨Nat.xor_lt_two_pow (n := 64) hx hy, fun j => by rw [Nat.testBit_xor]⟩
theorem and_bits : ∀ x y, x < 18446744073709551616 → y < 18446744073709551616 → x &&& y < 18446744073709551616 ∧ ∀ j, (x &&& y).testBit j = (x.testBit j && y.testBit j) :=
  fun x y hx _ => ⟨Nat.lt_of_le_of_lt Nat.and_le_left hx, fun j => by rw [Nat.testBit_and]⟩

theorem chunks_inj {la lb : List Bool} (hl : la.length = lb.length) (h : chunks 64 la = chunks 64 lb) : la = lb := by
  apply bool_ext hl
  intro j hj
  have hk : j / 64 < need la.length 64 := by rw [need64]; omega
  have h1 := chunks_get hk
  rw [h, chunks_get (by rw [← hl]; exact hk)] at h1
  have h2 := congrArg (fun x => x.testBit (j % 64)) (Option.some.inj h1)
  simp only [chunk_testBit, Nat.div_add_mod] at h2
  have : j % 64 < 64 := Nat.mod_lt _ (by omega)
  simp [this] at h2
  exact h2.symm

/- words in memory, to be read -/
structure Nl (w : World) (m : Nat) (a : Option Addr) (ws : List Nat) : Prop where
  len : ws.length = m
  at' : ∀ (j : Nat) (x : Nat), ws[j]? = some x → ∃ g o, a = some ⟨g, o, none⟩ ∧ w.cell? ⟨g, o + j, none⟩ = some (.int .u64 (x : Int))

theorem Vc.nl {b : Nat} {w : World} {n : Nat} {a : Option Addr} {l : List Bool} (h : Vc b w n a l) : Nl w (need n 64) a (chunks 64 l) :=
  ⟨by rw [chunks_length, h.len], fun j x hj => by
    obtain ⟨h1, h2⟩ := chunks_get' hj
    rw [h.len] at h1
    obtain ⟨g, h3, _, _, h4⟩ := h.cell h1
    exact ⟨g, 0, h3, by rw [Nat.zero_add, h2]; exact h4⟩⟩

theorem Nl.below {B : Nat} {w w' : World} {m : Nat} {a : Option Addr} {ws : List Nat} (h : Nl w m a ws) (hB : Below B w w') (hs : w.heap.size ≤ B) : Nl w' m a ws :=
  ⟨h.len, fun j x hj => by
    obtain ⟨g, o, h1, h2⟩ := h.at' j x hj
    exact ⟨g, o, h1, (hB.cell (p := ⟨g, o + j, none⟩) (by have := lt_cell h2; simp; omega)).trans h2⟩⟩

theorem take_succ_eq {α : Type} {xs ys : List α} {k : Nat} {x : α} (h : xs.take k = ys.take k) (h1 : xs[k]? = some x) (h2 : ys[k]? = some x) : xs.take (k + 1) = ys.take (k + 1) := by
  rw [List.take_add_one, List.take_add_one, h, h1, h2]

theorem gr_drewN (w : World) (q : Nat) : ∃ q' os, w.drewN q = Sort.grow (w.drewN q') os := ⟨q, #[], by rw [Sort.grow_empty]⟩

end Go.Proofs.YtmmhfipdolbinaaGreatDoor
