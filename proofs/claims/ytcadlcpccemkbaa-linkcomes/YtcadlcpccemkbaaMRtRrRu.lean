/- What the bytes that are left say: numbers, texts, lists. A field read: whole or not at all. Texts and numbers read. -/
import Derived.Test.YtcadlcpccemkbaaMRSWb
import Derived.Test.YtcadlcpccemkbaaFr
namespace Go.Proofs.Ytcadlcpccemkbaa.X
open Go.RowKit
set_option maxRecDepth 100000
attribute [local go_sem] not_any mf_any

/- a number of n bytes: its code and its value -/
def numC (n : Nat) (R : List Nat) : Int := if n ≤ R.length then 0 else 12
def numX (n : Nat) (R : List Nat) : Nat := if n ≤ R.length then val (R.take n) else 0

theorem boxed {w : World} {b : Nat} {v : Value} {t : TypeId} (h : w.heap[b]? = some (.cells #[v] t (0, 0))) : w.cell? ⟨b, 0, none⟩ = some v := by
  rw [cell_of_row w b 0 _ _ _ h]; rfl

set_option maxHeartbeats 1000000 in
theorem number1_any (n b : Nat) (t : ByteArray) (w : World) (hn : n ≤ 8) (hbx : w.cell? ⟨b, 0, none⟩ = some (.int .i64 (n : Int))) :
    Calls Try.prog 68 #[.string t, .pointer (some ⟨b, 0, none⟩)] w fun e w' => e = .returned (.tuple #[.int .u64 (numX n (nums t) : Nat), .int .i64 (n : Int), .int .i64 (numC n (nums t))]) ∧ ∃ q, w' = w.drewN q := by
  have mx := mixed
  by_cases h : n ≤ t.size
  · have h1 : numX n (nums t) = val (nums (t.extract 0 n)) := by rw [numX, if_pos (by rw [nums_length]; exact h), nums_extract]; rfl
    have h2 : numC n (nums t) = 0 := by rw [numC, if_pos (by rw [nums_length]; exact h)]
    have k1 := hide1 (first_yes t n w h)
    have k2 := fun w => hide1 (numberOf_any (t.extract 0 n) w (by rw [size_nums, nums_extract, List.length_drop, List.length_take]; omega))
    rw [h1, h2]
    generalize val (nums (t.extract 0 n)) = v at *
    generalize t.extract 0 n = t1 at *
    clear h1 h2 h
    go_enter Try.func68, Try.ntmps68
    go_wp2_with (go_at_call 69; refine k1.out.mono ?_; rintro e w1 ⟨rfl, hw1⟩; cases hw1)
    go_quiet ((go_at_call 70; exact Calls.quiet_of_same (k2 _).out))
    go_wp2
    go_ret3
    exact ⟨rfl, nq, rfl⟩
  · have h1 : numX n (nums t) = 0 := by rw [numX, if_neg (by rw [nums_length]; exact h)]
    have h2 : numC n (nums t) = 12 := by rw [numC, if_neg (by rw [nums_length]; exact h)]
    have k1 := hide1 (first_no t (n : Int) w (by omega))
    have k2 := fun w => hide1 (numberOf_any ⟨#[]⟩ w (by decide))
    rw [nums_empty, val_nil] at k2
    rw [h1, h2]
    clear h1 h2 h
    go_enter Try.func68, Try.ntmps68
    go_wp2_with (go_at_call 69; refine k1.out.mono ?_; rintro e w1 ⟨rfl, hw1⟩; cases hw1)
    go_quiet ((go_at_call 70; exact Calls.quiet_of_same (k2 _).out))
    go_wp2
    go_ret3
    exact ⟨rfl, nq, rfl⟩

/- a list of at most so many things, of so many bits each: its code, how many, their bytes -/
def cntN (R : List Nat) : Nat := val (R.take 4)
def lstC (most : Int) (tb : Nat) (R : List Nat) : Int :=
  if R.length < 4 then 12 else if most < (cntN R : Int) then 2 else if R.length < 4 + (cntN R * tb + 7) / 8 then 12 else 0
def lstH (tb : Nat) (R : List Nat) : List Nat := (R.drop 4).take ((cntN R * tb + 7) / 8)
theorem cntN_lt {R : List Nat} (h : Lt 256 R) : cntN R < 4294967296 := by
  have h1 := val_lt _ (h.take 4)
  have h2 : (R.take 4).length ≤ 4 := by rw [List.length_take]; omega
  have h3 : (256 : Nat) ^ (R.take 4).length ≤ 256 ^ 4 := Nat.pow_le_pow_right (by omega) h2
  unfold cntN
  omega
theorem lstH_length {most : Int} {tb : Nat} {R : List Nat} (h : lstC most tb R = 0) : (lstH tb R).length = (cntN R * tb + 7) / 8 ∧ 4 + (cntN R * tb + 7) / 8 ≤ R.length ∧ (cntN R : Int) ≤ most := by
  unfold lstC at h
  split at h
  · cases h
  split at h
  · cases h
  split at h
  · cases h
  · refine ⟨?_, by omega, by omega⟩
    unfold lstH
    rw [List.length_take, List.length_drop]
    omega

theorem run_from (s : ByteArray) (p : Nat) (h2 : p ≤ s.size) (w : World) : (Instr.slice 9 (.string s) (some (.int .i64 (p : Int))) none none).run Try.prog w = .ok (.string (s.extract p s.size)) w := by
  have := Try.underlying9
  go_simp
theorem nums_rest (s : ByteArray) (p : Nat) : nums (s.extract p s.size) = (nums s).drop p := by
  rw [nums_extract, List.take_of_length_le (by rw [nums_length]; omega)]
theorem run_cut4 (s : ByteArray) (w : World) (h2 : 4 ≤ s.size) : (Instr.slice 9 (.string s) (some (.int .i64 4)) none none).run Try.prog w = .ok (.string (s.extract 4 s.size)) w := run_from s 4 h2 w
theorem drewN_below {B : Nat} {w w' : World} (h : Below B w w') (q : Nat) : Below B w (w'.drewN q) := ⟨h.1, h.2, h.3, h.4, h.5⟩

/- what counted answers -/
def LPost (most : Int) (tb : Nat) (R : List Nat) (w : World) (e : Ending) (w' : World) : Prop :=
  (lstC most tb R = 0 → e = .returned (.tuple #[.agg #[.int .i64 (cntN R : Nat), .string (txt (lstH tb R))], .int .i64 0])) ∧
  (lstC most tb R ≠ 0 → e = .returned (.tuple #[.agg #[.int .i64 0, .string ⟨#[]⟩], .int .i64 (lstC most tb R)])) ∧ Below w.heap.size w w'

end Go.Proofs.Ytcadlcpccemkbaa.X

namespace Go.Proofs.Ytcadlcpccemkbaa.X
open Go.RowKit
set_option maxRecDepth 100000
attribute [local go_sem] not_any mf_any

/- where the reader is behind a field, and its fault -/
def rdN (s : ByteArray) (k sz : Nat) (f field : ByteArray) (code : Int) : Obj := if code = 0 then rdr s (k + sz) 0 f else rdr s k code field
theorem rdN_ok (s : ByteArray) (k sz : Nat) (f field : ByteArray) : rdN s k sz f field 0 = rdr s (k + sz) 0 f := rfl
theorem rdN_no (s : ByteArray) (k sz : Nat) (f field : ByteArray) {code : Int} (h : code ≠ 0) : rdN s k sz f field code = rdr s k code field := if_neg h
structure RdP (g k sz : Nat) (s f field : ByteArray) (code : Int) (w : World) (good : Ending → World → Prop) (zero : Value) (e : Ending) (w' : World) : Prop where
  good : code = 0 → good e w'
  bad : code ≠ 0 → e = .returned zero
  row : w'.heap[g]? = some (rdN s k sz f field code)
  but : But g w w'

theorem over_num (g k : Nat) (s f field : ByteArray) (c : Int) (fv : Value) (w : World) (h : w.heap[g]? = some (rdr s k c f)) (hc : c ≠ 0) :
    Calls Try.prog 67 #[.pointer (some ⟨g, 0, none⟩), .string field, fv] w fun e w' => e = .returned (.int .u64 0) ∧ w' = w := by
  have k0 := hide1 (isOver_any g k s f c w h)
  rw [show (c != 0) = true by simpa using hc] at k0
  clear h
  go_enter Try.func67, Try.ntmps67
  go_wp2_with (go_at_call 72; refine k0.out.mono ?_; rintro e w' ⟨rfl, rfl⟩)
  go_ret
  exact ⟨rfl, rfl⟩

set_option maxHeartbeats 1000000 in
theorem read_num (g k sz : Nat) (s f field : ByteArray) (code : Int) (b : Nat) (x : Nat) (w : World) (h : w.heap[g]? = some (rdr s k 0 f)) (hk : k ≤ s.size) (hs : s.size ≤ 281474976710656) (hsz : sz ≤ 281474976710656)
    (HT : Hid (∀ w' : World, Below w.heap.size w w' → Calls Try.prog 68 #[.string (s.extract k s.size), .pointer (some ⟨b, 0, none⟩)] w' fun e w'' => e = .returned (.tuple #[.int .u64 (x : Int), .int .i64 (sz : Int), .int .i64 code]) ∧ Below w'.heap.size w' w'')) :
    Calls Try.prog 67 #[.pointer (some ⟨g, 0, none⟩), .string field, .func (.func 68) #[] #[.pointer (some ⟨b, 0, none⟩)]] w (RdP g k sz s f field code w (fun e _ => e = .returned (.int .u64 (x : Int))) (.int .u64 0)) := by
  have k0 := hide1 (isOver_any g k s f 0 w h)
  obtain ⟨c0, c1, c2, c3, c4, lt⟩ := rd_cells h
  have hcut := run_from s k hk
  have HR := hide1 h
  have HLT := hide1 lt
  have kT := hide1 (HT.out w.drew ((Below.refl _ _).drew))
  clear h c0 c3 c4 HT
  generalize s.extract k s.size = rest at *
  go_enter Try.func67, Try.ntmps67
  go_upto_region 4 with (go_at_call 72; refine k0.out.mono ?_; rintro e w1 ⟨rfl, hw1⟩; cases hw1)
  go_region_with (go_at_call 68; refine kT.out.mono ?_; rintro e w1 ⟨rfl, hb1⟩)
  all_goals
    have hR1 : w1.heap[g]? = some (rdr s k 0 f) := (hb1.block g HLT.out).trans HR.out
    have HB1 : Hid (Below w.heap.size w w1) := (Below.refl _ _).drew.trans hb1
    have HR1 := hide1 hR1
    obtain ⟨c0, c1, c2, c3, c4, lt1⟩ := rd_cells hR1
    obtain ⟨f2, f3, f4⟩ := rd_free hR1
    by_cases hcode : code = 0
    · subst hcode
      clear hb1 hR1 k0
      go_wp2
      go_ret
      have ek : ((k : Int) + (sz : Int)) = (((k + sz : Nat)) : Int) := by omega
      refine ⟨fun _ => rfl, fun h => absurd rfl h, ?_, (But.of_below HB1.out).trans (But.set g 2 _ _)⟩
      rw [rdN_ok, ek]
      exact rd_at HR1.out (k + sz)
    · have hc' : (code != 0) = true := by simpa using hcode
      have kF := hide1 (fail_any g k s f field code w1 hR1 hcode)
      clear hb1 hR1 k0
      go_wp2_with (go_at_call 73; refine kF.out.mono ?_; rintro e w2 ⟨rfl, rfl⟩)
      go_ret
      refine ⟨fun h => absurd h hcode, fun _ => rfl, ?_, ((But.of_below HB1.out).trans (But.set g 3 _ _)).trans (But.set g 4 _ _)⟩
      rw [rdN_no _ _ _ _ _ hcode]
      exact rd_fault HR1.out code field

end Go.Proofs.Ytcadlcpccemkbaa.X

namespace Go.Proofs.Ytcadlcpccemkbaa.X
open Go.RowKit
set_option maxRecDepth 100000
attribute [local go_sem] not_any mf_any

def mostN (most : Int) (top : Int) : Int := if most ≤ top then most else top
theorem mostN_le (most top : Int) : mostN most top ≤ top := by unfold mostN; split <;> omega

theorem mostN_cases (most top : Int) : (most ≤ top ∧ mostN most top = most) ∨ (¬ most ≤ top ∧ mostN most top = top) := by
  by_cases h : most ≤ top
  · exact .inl ⟨h, if_pos h⟩
  · exact .inr ⟨h, if_neg h⟩
theorem lstH_lt (tb : Nat) (t : ByteArray) : Lt 256 (lstH tb (nums t)) := ((nums_all t).drop 4).take _

/- what Blob's function answers -/
def BPost (code : Int) (tv : ByteArray) (w : World) (e : Ending) (w' : World) : Prop := e = .returned (.tuple #[.string tv, .int .i64 ((4 + tv.size : Nat) : Int), .int .i64 code]) ∧ Below w.heap.size w w'
def blobT (most : Int) (R : List Nat) : ByteArray := if lstC (mostN most 65536) 8 R = 0 then txt (lstH 8 R) else ⟨#[]⟩

end Go.Proofs.Ytcadlcpccemkbaa.X
