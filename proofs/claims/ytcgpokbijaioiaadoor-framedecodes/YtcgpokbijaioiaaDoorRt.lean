/- What the bytes that are left say: numbers, texts, lists. -/
import Derived.Test.YtcgpokbijaioiaaDoorWb
import Derived.Test.YtcgpokbijaioiaaDoorFr
namespace Go.Proofs.YtcgpokbijaioiaaDoor
open Go.RowKit
set_option maxRecDepth 100000
attribute [local go_sem] not_any mf_any

/- a number of n bytes: its code and its value -/
def numC (n : Nat) (R : List Nat) : Int := if n ≤ R.length then 0 else 12
def numX (n : Nat) (R : List Nat) : Nat := if n ≤ R.length then val (R.take n) else 0

theorem boxed {w : World} {b : Nat} {v : Value} {t : TypeId} (h : w.heap[b]? = some (.cells #[v] t (0, 0))) : w.cell? ⟨b, 0, none⟩ = some v := by
  rw [cell_of_row w b 0 _ _ _ h]; rfl

set_option maxHeartbeats 1000000 in
theorem number1_any (n b : Nat) (t : ByteArray) (w : World) (hn : n ≤ 8) (hbx : w.cell? ⟨b, 0, none⟩ = some (.int .i64 (n : Int))) :
    Calls Tryd.prog 65 #[.string t, .pointer (some ⟨b, 0, none⟩)] w fun e w' => e = .returned (.tuple #[.int .u64 (numX n (nums t) : Nat), .int .i64 (n : Int), .int .i64 (numC n (nums t))]) ∧ ∃ q, w' = w.drewN q := by
  have mx := mixed
  by_cases h : n ≤ t.size
  · have h1 : numX n (nums t) = val (nums (t.extract 0 n)) := by rw [numX, if_pos (by rw [nums_length]; exact h), nums_extract]; rfl
    have h2 : numC n (nums t) = 0 := by rw [numC, if_pos (by rw [nums_length]; exact h)]
    have k1 := hide1 (first_yes t n w h)
    have k2 := fun w => hide1 (numberOf_any (t.extract 0 n) w (by rw [size_nums, nums_extract, List.length_drop, List.length_take]; omega))
    rw [h1, h2]
    generalize val (nums (t.extract 0 n)) = v at *
    generalize t.extract 0 n = t1 at *
    clear h1 h2 h
    go_enter Tryd.func65, Tryd.ntmps65
    go_wp2_with (go_at_call 66; refine k1.out.mono ?_; rintro e w1 ⟨rfl, hw1⟩; cases hw1)
    go_quiet ((go_at_call 67; exact Calls.quiet_of_same (k2 _).out))
    go_wp2
    go_ret3
    exact ⟨rfl, nq, rfl⟩
  · have h1 : numX n (nums t) = 0 := by rw [numX, if_neg (by rw [nums_length]; exact h)]
    have h2 : numC n (nums t) = 12 := by rw [numC, if_neg (by rw [nums_length]; exact h)]
    have k1 := hide1 (first_no t (n : Int) w (by omega))
    have k2 := fun w => hide1 (numberOf_any ⟨#[]⟩ w (by decide))
    rw [nums_empty, val_nil] at k2
    rw [h1, h2]
    clear h1 h2 h
    go_enter Tryd.func65, Tryd.ntmps65
    go_wp2_with (go_at_call 66; refine k1.out.mono ?_; rintro e w1 ⟨rfl, hw1⟩; cases hw1)
    go_quiet ((go_at_call 67; exact Calls.quiet_of_same (k2 _).out))
    go_wp2
    go_ret3
    exact ⟨rfl, nq, rfl⟩

/- a list of at most so many things, of so many bits each: its code, how many, their bytes -/
def cntN (R : List Nat) : Nat := val (R.take 4)
def lstC (most : Int) (tb : Nat) (R : List Nat) : Int :=
  if R.length < 4 then 12 else if most < (cntN R : Int) then 2 else if R.length < 4 + (cntN R * tb + 7) / 8 then 12 else 0
def lstH (tb : Nat) (R : List Nat) : List Nat := (R.drop 4).take ((cntN R * tb + 7) / 8)
theorem cntN_lt {R : List Nat} (h : Lt 256 R) : cntN R < 4294967296 := by
  have h1 := val_lt _ (h.take 4)
  have h2 : (R.take 4).length ≤ 4 := by rw [List.length_take]; omega
  have h3 : (256 : Nat) ^ (R.take 4).length ≤ 256 ^ 4 := Nat.pow_le_pow_right (by omega) h2
  unfold cntN
  omega
theorem lstH_length {most : Int} {tb : Nat} {R : List Nat} (h : lstC most tb R = 0) : (lstH tb R).length = (cntN R * tb + 7) / 8 ∧ 4 + (cntN R * tb + 7) / 8 ≤ R.length ∧ (cntN R : Int) ≤ most := by
  unfold lstC at h
  split at h
  · cases h
  split at h
  · cases h
  split at h
  · cases h
  · refine ⟨?_, by omega, by omega⟩
    unfold lstH
    rw [List.length_take, List.length_drop]
    omega

theorem run_from (s : ByteArray) (p : Nat) (h2 : p ≤ s.size) (w : World) : (Instr.slice 9 (.string s) (some (.int .i64 (p : Int))) none none).run Tryd.prog w = .ok (.string (s.extract p s.size)) w := by
  have := Tryd.underlying9
  go_simp
theorem nums_rest (s : ByteArray) (p : Nat) : nums (s.extract p s.size) = (nums s).drop p := by
  rw [nums_extract, List.take_of_length_le (by rw [nums_length]; omega)]
theorem run_cut4 (s : ByteArray) (w : World) (h2 : 4 ≤ s.size) : (Instr.slice 9 (.string s) (some (.int .i64 4)) none none).run Tryd.prog w = .ok (.string (s.extract 4 s.size)) w := run_from s 4 h2 w
theorem drewN_below {B : Nat} {w w' : World} (h : Below B w w') (q : Nat) : Below B w (w'.drewN q) := ⟨h.1, h.2, h.3, h.4, h.5⟩

/- what counted answers -/
def LPost (most : Int) (tb : Nat) (R : List Nat) (w : World) (e : Ending) (w' : World) : Prop :=
  (lstC most tb R = 0 → e = .returned (.tuple #[.agg #[.int .i64 (cntN R : Nat), .string (txt (lstH tb R))], .int .i64 0])) ∧
  (lstC most tb R ≠ 0 → e = .returned (.tuple #[.agg #[.int .i64 0, .string ⟨#[]⟩], .int .i64 (lstC most tb R)])) ∧ Below w.heap.size w w'

end Go.Proofs.YtcgpokbijaioiaaDoor
