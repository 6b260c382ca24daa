/- Bits of bytes: what each byte lays. Bits read of bytes. The small functions of package wire, and fault.New. -/
import Derived.Test.YtcadlcpccemkbaaMDEFM
import Derived.Lib.BufferWrite
import Derived.Lib.UnsafeStr
import Derived.Lib.Hide
import Derived.Laws.MakeOwn
namespace Go.Proofs.Ytcadlcpccemkbaa.X
open Go.RowKit
set_option maxRecDepth 100000

/- the numbers of a text's bytes, and its first n bits -/
def nums (s : ByteArray) : List Nat := s.data.toList.map (fun b => b.toNat)
def rbits (n : Nat) (s : ByteArray) : List Bool := (List.range n).map (fun i => ((nums s).getD (i / 8) 0).testBit (i % 8))

theorem nums_length (s : ByteArray) : (nums s).length = s.size := by
  rw [nums, List.length_map]
  exact Array.length_toList
theorem nums_lt {s : ByteArray} {k x : Nat} (h : (nums s)[k]? = some x) : x < 256 := by
  simp only [nums, List.getElem?_map, Option.map_eq_some_iff] at h
  obtain ⟨b, _, rfl⟩ := h
  exact b.toNat_lt
theorem rbits_length (n : Nat) (s : ByteArray) : (rbits n s).length = n := by simp [rbits]
theorem rbits_getD {n : Nat} {s : ByteArray} {i : Nat} (h : i < n) : (rbits n s).getD i false = ((nums s).getD (i / 8) 0).testBit (i % 8) := by
  rw [List.getD_eq_getElem?_getD]
  simp [rbits, h]

theorem txt_nums (s : ByteArray) : txt (nums s) = s := by
  have e : (nums s).map (fun n : Nat => UInt8.ofNat ((n : Int).toNat)) = s.data.toList := by
    simp only [nums, List.map_map]
    conv => rhs; rw [← List.map_id s.data.toList]
    apply List.map_congr_left
    intro b _
    simp
  cases s with
  | mk d =>
    simp only [txt, strOfNums, List.map_map]
    congr 1
    have := congrArg List.toArray e
    simpa [Function.comp_def] using this

/- nothing stands behind the last bit -/
def Clean (n : Nat) (s : ByteArray) : Prop := ∀ (k x : Nat), (nums s)[k]? = some x → ∀ j, j < 8 → n ≤ 8 * k + j → x.testBit j = false

theorem byte_bits {n : Nat} {s : ByteArray} (hc : Clean n s) {k x : Nat} (h : (nums s)[k]? = some x) {j : Nat} (hj : j < 8) : x.testBit j = (rbits n s).getD (8 * k + j) false := by
  by_cases hn : 8 * k + j < n
  · rw [rbits_getD hn, Nat.mul_add_div (by omega), Nat.mul_add_mod, Nat.div_eq_of_lt hj, Nat.mod_eq_of_lt hj, Nat.add_zero, List.getD_eq_getElem?_getD, h]
    rfl
  · rw [hc k x h j hj (by omega), List.getD_eq_getElem?_getD, List.getElem?_eq_none (by rw [rbits_length]; omega)]
    rfl

theorem chunks_rbits {n : Nat} {s : ByteArray} (hc : Clean n s) (hl : s.size = need n 8) : chunks 8 (rbits n s) = nums s := by
  symm
  apply chunks_ext (by rw [nums_length, rbits_length, hl])
  intro k x hx
  exact ⟨nums_lt hx, fun j hj => byte_bits hc hx hj⟩

theorem chunks_or_byte (l : List Bool) (k y : Nat) (hy : y < 256) (_hk : 8 * k < l.length) (h : ∀ j, j < 8 → y.testBit j = l.getD (8 * k + j) false) :
    chunks 64 (firsts l (8 * (k + 1))) = (chunks 64 (firsts l (8 * k))).set (k / 8) (chunk 64 (firsts l (8 * k)) (k / 8) ||| y * 2 ^ (8 * (k % 8))) := by
  symm
  apply chunks_ext (by rw [List.length_set, chunks_length, firsts_length, firsts_length])
  intro q x hx
  rw [List.getElem?_set] at hx
  have hb : y * 2 ^ (8 * (k % 8)) < 2 ^ 64 := by
    have h1 : 2 ^ (8 * (k % 8)) ≤ 2 ^ 56 := Nat.pow_le_pow_right (by omega) (by omega)
    have h2 : y * 2 ^ (8 * (k % 8)) ≤ 255 * 2 ^ 56 := Nat.mul_le_mul (by omega) h1
    have h3 : 255 * 2 ^ 56 < (2 : Nat) ^ 64 := by decide
    omega
  by_cases hq : k / 8 = q
  · rw [if_pos hq] at hx
    split at hx
    · cases hx
      refine ⟨Nat.or_lt_two_pow (chunk_lt _ _ _) hb, fun j hj => ?_⟩
      rw [Nat.testBit_or, chunk_testBit, firsts_getD, firsts_getD, Nat.mul_comm y, Nat.testBit_two_pow_mul]
      have e8 : 8 * k = 64 * q + 8 * (k % 8) := by omega
      by_cases h1 : j < 8 * (k % 8)
      · have a1 : 64 * q + j < 8 * k := by omega
        have a2 : 64 * q + j < 8 * (k + 1) := by omega
        have a3 : ¬ 8 * (k % 8) ≤ j := by omega
        rw [hq]
        simp [hj, a1, a2, a3]
      · have a1 : ¬ 64 * (k / 8) + j < 8 * k := by omega
        have a3 : 8 * (k % 8) ≤ j := by omega
        by_cases h2 : j - 8 * (k % 8) < 8
        · have a2 : 64 * q + j < 8 * (k + 1) := by omega
          rw [h _ h2, show 8 * k + (j - 8 * (k % 8)) = 64 * q + j by omega]
          simp [a1, a2, a3]
        · have a2 : ¬ 64 * q + j < 8 * (k + 1) := by omega
          have a4 : y.testBit (j - 8 * (k % 8)) = false := Nat.testBit_lt_two_pow (Nat.lt_of_lt_of_le hy (show 2 ^ 8 ≤ 2 ^ (j - 8 * (k % 8)) from Nat.pow_le_pow_right (by omega) (by omega)))
          simp [a1, a2, a4]
    · cases hx
  · rw [if_neg hq] at hx
    obtain ⟨_, rfl⟩ := chunks_get' hx
    refine ⟨chunk_lt _ _ _, fun j hj => ?_⟩
    rw [chunk_testBit, firsts_getD, firsts_getD]
    have : (64 * q + j < 8 * (k + 1)) ↔ 64 * q + j < 8 * k := by omega
    simp [hj, this]

end Go.Proofs.Ytcadlcpccemkbaa.X

namespace Go.Proofs.Ytcadlcpccemkbaa.X
open Go.RowKit
set_option maxRecDepth 100000
attribute [local go_sem] not_any mf_any

theorem nums_at {s : ByteArray} {k : Nat} (h : k < s.size) : (nums s)[k]? = some (s[k]'h).toNat := by
  unfold nums
  rw [List.getElem?_map, Array.getElem?_toList, Array.getElem?_eq_getElem (show k < s.data.size from h)]
  rfl

theorem byte_shift (x j : Nat) : ((x : Int) / 2 ^ j != 0) = decide (x / 2 ^ j ≠ 0) := by
  rw [pow_cast, ← Int.natCast_ediv]
  by_cases h : x / 2 ^ j = 0
  · simp [h]
  · simp only [ne_eq, h, not_false_eq_true, decide_true, bne_iff_ne]
    omega

theorem or_byte {x y j : Nat} (hx : x < 18446744073709551616) (hy : y < 256) (hj : j ≤ 56) : bits .or .u64 (x : Int) (IntKind.u64.wrap ((y : Int) * 2 ^ j)) = ((x ||| y * 2 ^ j : Nat) : Int) := by
  have h1 : 2 ^ j ≤ 2 ^ 56 := Nat.pow_le_pow_right (by omega) hj
  have h2 : y * 2 ^ j ≤ 255 * 2 ^ 56 := Nat.mul_le_mul (by omega) h1
  have h3 : 255 * 2 ^ 56 < 18446744073709551616 := by decide
  have h4 : IntKind.u64.wrap (((y * 2 ^ j : Nat) : Int)) = ((y * 2 ^ j : Nat) : Int) := by
    rw [IntKind.wrap_u64]
    generalize y * 2 ^ j = z at h2 ⊢
    omega
  rw [pow_cast, ← Int.natCast_mul, h4, u64_or_nat _ _ hx (by omega)]

end Go.Proofs.Ytcadlcpccemkbaa.X

namespace Go.Proofs.Ytcadlcpccemkbaa.X
open Go.RowKit
set_option maxRecDepth 100000
attribute [local go_sem] not_any mf_any

structure Shy (p : Prop) : Prop where
  out : p

/- a reader in memory: its bytes, how many are read, the first fault and its field -/
def rdr (s : ByteArray) (k : Nat) (c : Int) (f : ByteArray) : Obj := .cells #[.bool true, .string s, .int .i64 (k : Int), .int .i64 c, .string f] 105 (0, 0)

theorem rd_cells {w : World} {g k : Nat} {s f : ByteArray} {c : Int} (h : w.heap[g]? = some (rdr s k c f)) :
    w.cell? ⟨g, 0, none⟩ = some (.bool true) ∧ w.cell? ⟨g, 1, none⟩ = some (.string s) ∧ w.cell? ⟨g, 2, none⟩ = some (.int .i64 (k : Int)) ∧ w.cell? ⟨g, 3, none⟩ = some (.int .i64 c) ∧ w.cell? ⟨g, 4, none⟩ = some (.string f) ∧ g < w.heap.size :=
  ⟨by rw [cell_of_row w g 0 _ _ _ h]; rfl, by rw [cell_of_row w g 1 _ _ _ h]; rfl, by rw [cell_of_row w g 2 _ _ _ h]; rfl, by rw [cell_of_row w g 3 _ _ _ h]; rfl, by rw [cell_of_row w g 4 _ _ _ h]; rfl, lt_heap h⟩
theorem rd_free {w : World} {g k : Nat} {s f : ByteArray} {c : Int} (h : w.heap[g]? = some (rdr s k c f)) :
    w.frozen? ⟨g, 2, none⟩ = false ∧ w.frozen? ⟨g, 3, none⟩ = false ∧ w.frozen? ⟨g, 4, none⟩ = false :=
  ⟨frozen_of_row w g 2 _ _ h, frozen_of_row w g 3 _ _ h, frozen_of_row w g 4 _ _ h⟩
theorem rd_at {w : World} {g k : Nat} {s f : ByteArray} {c : Int} (h : w.heap[g]? = some (rdr s k c f)) (k' : Nat) : (w.setCell ⟨g, 2, none⟩ (.int .i64 (k' : Int))).heap[g]? = some (rdr s k' c f) := by
  rw [heap_setCell_same w g 2 _ _ _ h]; rfl
theorem rd_fault {w : World} {g k : Nat} {s f : ByteArray} {c : Int} (h : w.heap[g]? = some (rdr s k c f)) (c' : Int) (f' : ByteArray) : ((w.setCell ⟨g, 3, none⟩ (.int .i64 c')).setCell ⟨g, 4, none⟩ (.string f')).heap[g]? = some (rdr s k c' f') := by
  rw [heap_setCell_same _ g 4 _ _ _ (heap_setCell_same w g 3 _ _ _ h)]; rfl

/- all but one row is kept -/
structure But (b : Nat) (w w' : World) : Prop where
  os : w'.os = w.os
  tape : w'.tape = w.tape
  output : w'.output = w.output
  size : w.heap.size ≤ w'.heap.size
  block : ∀ k, k < w.heap.size → k ≠ b → w'.heap[k]? = w.heap[k]?
theorem But.refl (b : Nat) (w : World) : But b w w := ⟨rfl, rfl, rfl, Nat.le_refl _, fun _ _ _ => rfl⟩
theorem But.trans {b : Nat} {w1 w2 w3 : World} (h : But b w1 w2) (k : But b w2 w3) : But b w1 w3 :=
  ⟨k.os.trans h.os, k.tape.trans h.tape, k.output.trans h.output, Nat.le_trans h.size k.size, fun i hi hb => (k.block i (Nat.lt_of_lt_of_le hi h.size) hb).trans (h.block i hi hb)⟩
theorem But.set (b o : Nat) (w : World) (v : Value) : But b w (w.setCell ⟨b, o, none⟩ v) := by
  have h := (Below.refl b w).setCell (p := ⟨b, o, none⟩) (Nat.le_refl _) v
  exact ⟨h.1, h.2, h.3, h.4, fun k _ hb => heap_setCell_other w _ k v hb⟩
theorem But.drew {b : Nat} {w w' : World} (h : But b w w') : But b w w'.drew := ⟨h.1, h.2, h.3, h.4, h.5⟩
theorem But.drewN {b : Nat} {w w' : World} (h : But b w w') (q : Nat) : But b w (w'.drewN q) := ⟨h.1, h.2, h.3, h.4, h.5⟩
theorem But.below {b B : Nat} {w0 w w' : World} (h : But b w w') (hb : Below B w0 w) (hB : B ≤ b) (hs : B ≤ w.heap.size) : Below B w0 w' :=
  hb.trans ⟨h.os, h.tape, h.output, h.size, fun k hk => h.block k (by omega) (by omega)⟩
theorem But.of_below {b : Nat} {w w' : World} (h : Below w.heap.size w w') : But b w w' := ⟨h.1, h.2, h.3, h.4, fun k hk _ => h.5 k hk⟩

theorem newReader_any (s : ByteArray) (w : World) :
    Calls Try.prog 40 #[.string s] w fun e w' => e = .returned (.pointer (some ⟨w.heap.size, 0, none⟩)) ∧ w' = w.alloc (rdr s 0 0 ⟨#[]⟩) := by
  go_enter Try.func40, Try.ntmps40
  go_wp2
  go_ret
  exact ⟨rfl, rfl⟩

theorem isNone_no (g : Nat) (w : World) (h : w.cell? ⟨g, 0, none⟩ = some (.bool true)) : Calls Try.prog 54 #[.pointer (some ⟨g, 0, none⟩)] w fun e w' => e = .returned (.bool false) ∧ w' = w := by
  go_enter Try.func54, Try.ntmps54
  go_wp2
  go_ret
  exact ⟨rfl, rfl⟩

theorem isOver_any (g k : Nat) (s f : ByteArray) (c : Int) (w : World) (h : w.heap[g]? = some (rdr s k c f)) : Calls Try.prog 72 #[.pointer (some ⟨g, 0, none⟩)] w fun e w' => e = .returned (.bool (c != 0)) ∧ w' = w := by
  obtain ⟨c0, c1, c2, c3, c4, lt⟩ := rd_cells h
  have k0 := hide1 (isNone_no g w c0)
  clear h
  go_enter Try.func72, Try.ntmps72
  go_wp2_with (go_at_call 54; refine k0.out.mono ?_; rintro e w' ⟨rfl, rfl⟩)
  go_ret
  exact ⟨rfl, rfl⟩

theorem at_any (g k : Nat) (s f : ByteArray) (c : Int) (w : World) (h : w.heap[g]? = some (rdr s k c f)) : Calls Try.prog 43 #[.pointer (some ⟨g, 0, none⟩)] w fun e w' => e = .returned (.int .i64 (k : Int)) ∧ w' = w := by
  obtain ⟨c0, c1, c2, c3, c4, lt⟩ := rd_cells h
  have k0 := hide1 (isNone_no g w c0)
  clear h
  go_enter Try.func43, Try.ntmps43
  go_wp2_with (go_at_call 54; refine k0.out.mono ?_; rintro e w' ⟨rfl, rfl⟩)
  go_ret
  exact ⟨rfl, rfl⟩

theorem fail_over (g k : Nat) (s f f' : ByteArray) (c c' : Int) (w : World) (h : w.heap[g]? = some (rdr s k c f)) (hc : c ≠ 0) :
    Calls Try.prog 73 #[.pointer (some ⟨g, 0, none⟩), .string f', .int .i64 c'] w fun e w' => e = .returned (.tuple #[]) ∧ w' = w := by
  have k0 := hide1 (isOver_any g k s f c w h)
  rw [show (c != 0) = true by simpa using hc] at k0
  clear h
  go_enter Try.func73, Try.ntmps73
  go_wp2_with (go_at_call 72; refine k0.out.mono ?_; rintro e w' ⟨rfl, rfl⟩)
  refine bodyPost_ret (results_none rfl _ _ _) rfl ?_
  exact ⟨rfl, rfl⟩

theorem fail_any (g k : Nat) (s f f' : ByteArray) (c' : Int) (w : World) (h : w.heap[g]? = some (rdr s k 0 f)) (hc : c' ≠ 0) :
    Calls Try.prog 73 #[.pointer (some ⟨g, 0, none⟩), .string f', .int .i64 c'] w fun e w' => e = .returned (.tuple #[]) ∧ w' = (w.setCell ⟨g, 3, none⟩ (.int .i64 c')).setCell ⟨g, 4, none⟩ (.string f') := by
  have k0 := hide1 (isOver_any g k s f 0 w h)
  obtain ⟨c0, c1, c2, c3, c4, lt⟩ := rd_cells h
  obtain ⟨f2, f3, f4⟩ := rd_free h
  have hc' : (c' == 0) = false := by simpa using hc
  clear h
  go_enter Try.func73, Try.ntmps73
  go_wp2_with (go_at_call 72; refine k0.out.mono ?_; rintro e w' ⟨rfl, rfl⟩)
  go_end0
  exact ⟨rfl, rfl⟩

theorem new_none (f : ByteArray) (w : World) : Calls Try.prog 12 #[.int .i64 0, .string f] w fun e w' => e = .returned .nilIface ∧ w' = w := by
  go_enter Try.func12, Try.ntmps12
  go_wp2
  go_ret
  exact ⟨rfl, rfl⟩

def flt (c : Int) (f : ByteArray) : Obj := .cells #[.int .i64 c, .string f, .nilIface] 66 (0, 0)
theorem new_some (c : Int) (f : ByteArray) (w : World) (hc : c ≠ 0) : Calls Try.prog 12 #[.int .i64 c, .string f] w fun e w' => e = .returned (.iface 64 (.pointer (some ⟨w.heap.size, 0, none⟩))) ∧ w' = w.alloc (flt c f) := by
  have hc' : (c == 0) = false := by simpa using hc
  go_enter Try.func12, Try.ntmps12
  go_wp2
  go_ret
  exact ⟨rfl, rfl⟩

theorem err_none (g k : Nat) (s f : ByteArray) (w : World) (h : w.heap[g]? = some (rdr s k 0 f)) : Calls Try.prog 42 #[.pointer (some ⟨g, 0, none⟩)] w fun e w' => e = .returned .nilIface ∧ ∃ q, w' = w.drewN q := by
  obtain ⟨c0, c1, c2, c3, c4, lt⟩ := rd_cells h
  have k0 := hide1 (isNone_no g w c0)
  have k1 := fun w => hide1 (new_none f w)
  have mx := mixed
  clear h
  go_enter Try.func42, Try.ntmps42
  go_wp2_with (go_at_call 54; refine k0.out.mono ?_; rintro e w' ⟨rfl, rfl⟩)
  go_quiet ((go_at_call 12; exact Calls.quiet_of_same (k1 _).out))
  go_wp2
  go_ret
  exact ⟨rfl, nq, rfl⟩

set_option maxHeartbeats 1000000 in
theorem err_some (g k : Nat) (s f : ByteArray) (c : Int) (w : World) (h : w.heap[g]? = some (rdr s k c f)) (hc : c ≠ 0) : Calls Try.prog 42 #[.pointer (some ⟨g, 0, none⟩)] w fun e w' => e = .returned (.iface 64 (.pointer (some ⟨w.heap.size, 0, none⟩))) ∧ ∃ q, w' = (w.alloc (flt c f)).drewN q := by
  obtain ⟨c0, c1, c2, c3, c4, lt⟩ := rd_cells h
  have k0 := hide1 (isNone_no g w c0)
  have k1 := fun w => hide1 (new_some c f w hc)
  clear h
  go_enter Try.func42, Try.ntmps42
  go_wp2_with (go_at_call 54; refine k0.out.mono ?_; rintro e w' ⟨rfl, rfl⟩)
  go_region_with (go_at_call 12; refine (k1 _).out.mono ?_; rintro e w' ⟨rfl, rfl⟩)
  all_goals
    go_wp2
    go_ret
    exact ⟨rfl, 1, rfl⟩

theorem first_no (s : ByteArray) (n : Int) (w : World) (h : (s.size : Int) < n) : Calls Try.prog 69 #[.string s, .int .i64 n] w fun e w' => e = .returned (.tuple #[.string ⟨#[]⟩, .int .i64 12]) ∧ w' = w := by
  go_enter Try.func69, Try.ntmps69
  go_wp2
  go_ret2
  exact ⟨rfl, rfl⟩

theorem first_yes (s : ByteArray) (n : Nat) (w : World) (h : n ≤ s.size) : Calls Try.prog 69 #[.string s, .int .i64 (n : Int)] w fun e w' => e = .returned (.tuple #[.string (s.extract 0 n), .int .i64 0]) ∧ w' = w := by
  have h' : ¬ ((s.size : Int) < (n : Int)) := by omega
  go_enter Try.func69, Try.ntmps69
  go_wp2
  go_ret2
  exact ⟨rfl, rfl⟩

end Go.Proofs.Ytcadlcpccemkbaa.X
