/- Rows of 128 bits: Bit, Other, Times, and the document's Bit. The document's Stream. -/
import Derived.Test.YtpigbhmamaghgaaPgF
import Derived.Test.YtpigbhmamaghgaaPgCh
import Derived.Test.YtpigbhmamaghgaaMPgVPgH
import Derived.Test.YtpigbhmamaghgaaPgN
namespace Go.Proofs.Ytpigbhmamaghgaa
open Go.RowKit Pg
set_option maxRecDepth 100000
attribute [local go_sem] not_any

/- a row, as a value -/
def rw2 (a b : Nat) : Value := .agg #[.int .u64 (a : Int), .int .u64 (b : Int)]
def row2 (a b : Nat) : Obj := .cells #[.int .u64 (a : Int), .int .u64 (b : Int)] 26 (0, 0)
/- a row's bit -/
def bt (a b : Nat) (i : Int) : Bool := if 0 ≤ i ∧ i < 128 then (if i < 64 then a.testBit i.toNat else b.testBit (i.toNat - 64)) else false
theorem bt_no {a b : Nat} {i : Int} (h : i < 0 ∨ 128 ≤ i) : bt a b i = false := if_neg (by omega)
theorem bt_lo {a b k : Nat} (h : k < 64) : bt a b (k : Int) = a.testBit k := by
  rw [bt, if_pos (by omega), if_pos (by omega), Int.toNat_natCast]
theorem bt_hi {a b k : Nat} (h : k < 64) : bt a b ((64 + k : Nat) : Int) = b.testBit k := by
  rw [bt, if_pos (by omega), if_neg (by omega), Int.toNat_natCast, Nat.add_sub_cancel_left]

theorem shr_bit (a k : Nat) : (a / 2 ^ k % 2 == 1) = a.testBit k := by
  rw [Nat.testBit_eq_decide_div_mod_eq]
  rfl
theorem lt_pow {a k : Nat} (h : a < 18446744073709551616) : a / 2 ^ k < 18446744073709551616 := Nat.lt_of_le_of_lt (Nat.div_le_self _ _) h

theorem ret_and (a k : Nat) (h : a < 18446744073709551616) : (bits .and .u64 ((a : Int) / 2 ^ k) 1 == 1) = (a / 2 ^ k % 2 == 1) := by
  have e : (a : Int) / 2 ^ k = ((a / 2 ^ k : Nat) : Int) := by rw [Int.natCast_ediv, Int.natCast_pow]; rfl
  have hl := lt_pow (k := k) h
  rw [e]
  generalize a / 2 ^ k = q at *
  rw [and_one_u64 _ (by omega) (by omega), show (q : Int) % 2 = ((q % 2 : Nat) : Int) by omega]
  generalize q % 2 = z
  rw [Bool.eq_iff_iff, beq_iff_eq, beq_iff_eq]
  omega
theorem ret_mod (a k : Nat) : ((a : Int) / 2 ^ k % 2 == 1) = (a / 2 ^ k % 2 == 1) := by
  have e : (a : Int) / 2 ^ k = ((a / 2 ^ k : Nat) : Int) := by rw [Int.natCast_ediv, Int.natCast_pow]; rfl
  rw [e]
  generalize a / 2 ^ k = q
  rw [show (q : Int) % 2 = ((q % 2 : Nat) : Int) by omega]
  generalize q % 2 = z
  rw [Bool.eq_iff_iff, beq_iff_eq, beq_iff_eq]
  omega
theorem ret_bool {x y : Bool} (h : x = y) : Ending.returned (.bool x) = .returned (.bool y) := by rw [h]

theorem bit_any (a b : Nat) (i : Int) (w : World) (ha : a < 18446744073709551616) (hb : b < 18446744073709551616) :
    Calls Try.prog 16 #[rw2 a b, .int .i64 i] w fun e w' => e = .returned (.bool (bt a b i)) ∧ Below w.heap.size w w' := by
  have hB := fun (o : Obj) => hide1 ((Below.refl w.heap.size w).alloc (Nat.le_refl _) o)
  unfold rw2
  by_cases h0 : i < 0
  · rw [bt_no (.inl h0)]
    go_enter Try.func16, Try.ntmps16
    go_wp2
    go_ret
    exact ⟨rfl, (hB _).out⟩
  · have h0' : decide (i < 0) = false := by rw [decide_eq_false_iff_not]; exact h0
    by_cases h1 : 128 ≤ i
    · rw [bt_no (.inr h1)]
      go_enter Try.func16, Try.ntmps16
      go_wp2
      go_ret
      exact ⟨rfl, (hB _).out⟩
    · have h1' : decide (128 ≤ i) = false := by rw [decide_eq_false_iff_not]; exact h1
      by_cases h2 : i < 64
      · obtain ⟨k, rfl⟩ := Int.eq_ofNat_of_zero_le (show 0 ≤ i by omega)
        have e1 : (k : Int) / 64 = 0 := by omega
        have e2 : (k : Int) % 64 = (k : Int) := by omega
        rw [bt_lo (by omega), ← shr_bit]
        go_enter Try.func16, Try.ntmps16
        go_wp2
        go_ret
        exact ⟨ret_bool (ret_and a k ha), (hB _).out⟩
      · obtain ⟨k, rfl⟩ : ∃ k : Nat, i = ((64 + k : Nat) : Int) := ⟨(i - 64).toNat, by omega⟩
        have hk : k < 64 := by omega
        obtain ⟨m, hm⟩ : ∃ m, m = 64 + k := ⟨_, rfl⟩
        rw [bt_hi hk, ← shr_bit, ← hm]
        have e1 : (m : Int) / 64 = 1 := by omega
        have e2 : (m : Int) % 64 = (k : Int) := by omega
        rw [← hm] at h0 h0' h1 h1' h2
        clear hm
        go_enter Try.func16, Try.ntmps16
        go_wp2
        go_ret
        exact ⟨ret_bool (ret_and b k hb), (hB _).out⟩

theorem rbit_any (a b : Nat) (i : Int) (w : World) :
    Calls Try.prog 17 #[rw2 a b, .int .i64 i] w fun e w' => e = .returned (.bool (bt a b i)) ∧ Below w.heap.size w w' := by
  have hB := fun (o : Obj) => hide1 ((Below.refl w.heap.size w).alloc (Nat.le_refl _) o)
  unfold rw2
  by_cases h0 : i < 0
  · rw [bt_no (.inl h0)]
    go_enter Try.func17, Try.ntmps17
    go_wp2
    go_ret
    exact ⟨rfl, (hB _).out⟩
  · have h0' : decide (i < 0) = false := by rw [decide_eq_false_iff_not]; exact h0
    by_cases h1 : 128 ≤ i
    · rw [bt_no (.inr h1)]
      go_enter Try.func17, Try.ntmps17
      go_wp2
      go_ret
      exact ⟨rfl, (hB _).out⟩
    · have h1' : decide (127 < i) = false := by rw [decide_eq_false_iff_not]; omega
      by_cases h2 : i < 64
      · obtain ⟨k, rfl⟩ := Int.eq_ofNat_of_zero_le (show 0 ≤ i by omega)
        have e1 : IntKind.u64.wrap (k : Int) = (k : Int) := by rw [IntKind.wrap_u64]; omega
        rw [bt_lo (by omega), ← shr_bit]
        go_enter Try.func17, Try.ntmps17
        go_wp2
        go_ret
        exact ⟨ret_bool (ret_mod a k), (hB _).out⟩
      · obtain ⟨k, rfl⟩ : ∃ k : Nat, i = ((64 + k : Nat) : Int) := ⟨(i - 64).toNat, by omega⟩
        have hk : k < 64 := by omega
        obtain ⟨m, hm⟩ : ∃ m, m = 64 + k := ⟨_, rfl⟩
        rw [bt_hi hk, ← shr_bit, ← hm]
        have e1 : (m : Int) - 64 = (k : Int) := by omega
        have e3 : IntKind.u64.wrap (k : Int) = (k : Int) := by rw [IntKind.wrap_u64]; omega
        have e4 : decide ((m : Int) < 64) = false := by rw [decide_eq_false_iff_not]; omega
        rw [← hm] at h0 h0' h1 h1' h2
        clear hm
        go_enter Try.func17, Try.ntmps17
        go_wp2
        go_ret
        exact ⟨ret_bool (ret_mod b k), (hB _).out⟩

theorem hi26 (a b : Nat) : (Try.prog.info? 26).map (·.size) = some (#[Value.int .u64 (a : Int), Value.int .u64 (b : Int)] : Array Value).size := by kernel_rfl
theorem other_any (a b c d : Nat) (w : World) (ha : a < 18446744073709551616) (hb : b < 18446744073709551616) (hc : c < 18446744073709551616) (hd : d < 18446744073709551616) :
    Calls Try.prog 14 #[rw2 a b, rw2 c d] w fun e w' => e = .returned (rw2 (a ^^^ c) (b ^^^ d)) ∧ Below w.heap.size w w' := by
  have e1 := u64_xor_nat a c ha hc
  have e2 := u64_xor_nat b d hb hd
  unfold rw2
  generalize a ^^^ c = x at *
  generalize b ^^^ d = y at *
  go_enter Try.func14, Try.ntmps14
  go_wp2
  refine ret_row Try.results14 (w.heap.size + 1 + 1) 26 #[.int .u64 (x : Int), .int .u64 (y : Int)] rfl ?_ Try.underlying26 (hi26 _ _) rfl ⟨rfl, ?_⟩
  · exact (three_at rfl).2.2.1
  · exact (three_at rfl).2.2.2.1
theorem times_any (t : Bool) (a b : Nat) (w : World) :
    Calls Try.prog 15 #[.bool t, rw2 a b] w fun e w' => e = .returned (rw2 (if t then a else 0) (if t then b else 0)) ∧ Below w.heap.size w w' := by
  unfold rw2
  cases t
  · go_enter Try.func15, Try.ntmps15
    go_wp2
    refine ret_row Try.results15 (w.heap.size + 1) 26 #[.int .u64 0, .int .u64 0] rfl ?_ Try.underlying26 (hi26 0 0) rfl ⟨rfl, ?_⟩
    · exact heap_alloc2_new _ _ _
    · exact ((Below.refl _ _).alloc (Nat.le_refl _) _).alloc (by simp) _
  · go_enter Try.func15, Try.ntmps15
    go_wp2
    refine ret_row Try.results15 (w.heap.size + 1) 26 #[.int .u64 (a : Int), .int .u64 (b : Int)] rfl ?_ Try.underlying26 (hi26 _ _) rfl ⟨rfl, ?_⟩
    · exact heap_alloc2_new _ _ _
    · exact ((Below.refl _ _).alloc (Nat.le_refl _) _).alloc (by simp) _
end Go.Proofs.Ytpigbhmamaghgaa

namespace Go.Proofs.Ytpigbhmamaghgaa.Pg
open Go.RowKit
set_option maxRecDepth 100000
attribute [local go_sem] not_any

theorem run_upto (s : ByteArray) (q : Nat) (h : q ≤ s.size) (w : World) : (Instr.slice 9 (.string s) none (some (.int .i64 (q : Int))) none).run Try.prog w = .ok (.string (s.extract 0 q)) w := by
  have := Try.underlying9
  go_simp

end Go.Proofs.Ytpigbhmamaghgaa.Pg
