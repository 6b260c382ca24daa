/- A field read: whole or not at all. Texts and numbers read. -/
import Derived.Test.YtmmhfipdolbinaaGreatDoorRt
namespace Go.Proofs.YtmmhfipdolbinaaGreatDoor
open Go.RowKit
set_option maxRecDepth 100000
attribute [local go_sem] not_any mf_any

/- where the reader is behind a field, and its fault -/
def rdN (s : ByteArray) (k sz : Nat) (f field : ByteArray) (code : Int) : Obj := if code = 0 then rdr s (k + sz) 0 f else rdr s k code field
theorem rdN_ok (s : ByteArray) (k sz : Nat) (f field : ByteArray) : rdN s k sz f field 0 = rdr s (k + sz) 0 f := rfl
theorem rdN_no (s : ByteArray) (k sz : Nat) (f field : ByteArray) {code : Int} (h : code ≠ 0) : rdN s k sz f field code = rdr s k code field := if_neg h
structure RdP (g k sz : Nat) (s f field : ByteArray) (code : Int) (w : World) (good : Ending → World → Prop) (zero : Value) (e : Ending) (w' : World) : Prop where
  good : code = 0 → good e w'
  bad : code ≠ 0 → e = .returned zero
  row : w'.heap[g]? = some (rdN s k sz f field code)
  but : But g w w'

theorem over_num (g k : Nat) (s f field : ByteArray) (c : Int) (fv : Value) (w : World) (h : w.heap[g]? = some (rdr s k c f)) (hc : c ≠ 0) :
    Calls Tryz.prog 76 #[.pointer (some ⟨g, 0, none⟩), .string field, fv] w fun e w' => e = .returned (.int .u64 0) ∧ w' = w := by
  have k0 := hide1 (isOver_any g k s f c w h)
  rw [show (c != 0) = true by simpa using hc] at k0
  clear h
  go_enter Tryz.func76, Tryz.ntmps76
  go_wp2_with (go_at_call 66; refine k0.out.mono ?_; rintro e w' ⟨rfl, rfl⟩)
  go_ret
  exact ⟨rfl, rfl⟩

theorem over_str (g k : Nat) (s f field : ByteArray) (c : Int) (fv : Value) (w : World) (h : w.heap[g]? = some (rdr s k c f)) (hc : c ≠ 0) :
    Calls Tryz.prog 43 #[.pointer (some ⟨g, 0, none⟩), .string field, fv] w fun e w' => e = .returned (.string ⟨#[]⟩) ∧ w' = w := by
  have k0 := hide1 (isOver_any g k s f c w h)
  rw [show (c != 0) = true by simpa using hc] at k0
  clear h
  go_enter Tryz.func43, Tryz.ntmps43
  go_wp2_with (go_at_call 66; refine k0.out.mono ?_; rintro e w' ⟨rfl, rfl⟩)
  go_ret
  exact ⟨rfl, rfl⟩

set_option maxHeartbeats 1000000 in
theorem read_num (g k sz : Nat) (s f field : ByteArray) (code : Int) (b : Nat) (x : Nat) (w : World) (h : w.heap[g]? = some (rdr s k 0 f)) (hk : k ≤ s.size) (hs : s.size ≤ 281474976710656) (hsz : sz ≤ 281474976710656)
    (HT : Hid (∀ w' : World, Below w.heap.size w w' → Calls Tryz.prog 77 #[.string (s.extract k s.size), .pointer (some ⟨b, 0, none⟩)] w' fun e w'' => e = .returned (.tuple #[.int .u64 (x : Int), .int .i64 (sz : Int), .int .i64 code]) ∧ Below w'.heap.size w' w'')) :
    Calls Tryz.prog 76 #[.pointer (some ⟨g, 0, none⟩), .string field, .func (.func 77) #[] #[.pointer (some ⟨b, 0, none⟩)]] w (RdP g k sz s f field code w (fun e _ => e = .returned (.int .u64 (x : Int))) (.int .u64 0)) := by
  have k0 := hide1 (isOver_any g k s f 0 w h)
  obtain ⟨c0, c1, c2, c3, c4, lt⟩ := rd_cells h
  have hcut := run_from s k hk
  have HR := hide1 h
  have HLT := hide1 lt
  have kT := hide1 (HT.out w.drew ((Below.refl _ _).drew))
  clear h c0 c3 c4 HT
  generalize s.extract k s.size = rest at *
  go_enter Tryz.func76, Tryz.ntmps76
  go_upto_region 4 with (go_at_call 66; refine k0.out.mono ?_; rintro e w1 ⟨rfl, hw1⟩; cases hw1)
  go_region_with (go_at_call 77; refine kT.out.mono ?_; rintro e w1 ⟨rfl, hb1⟩)
  all_goals
    have hR1 : w1.heap[g]? = some (rdr s k 0 f) := (hb1.block g HLT.out).trans HR.out
    have HB1 : Hid (Below w.heap.size w w1) := (Below.refl _ _).drew.trans hb1
    have HR1 := hide1 hR1
    obtain ⟨c0, c1, c2, c3, c4, lt1⟩ := rd_cells hR1
    obtain ⟨f2, f3, f4⟩ := rd_free hR1
    by_cases hcode : code = 0
    · subst hcode
      clear hb1 hR1 k0
      go_wp2
      go_ret
      have ek : ((k : Int) + (sz : Int)) = (((k + sz : Nat)) : Int) := by omega
      refine ⟨fun _ => rfl, fun h => absurd rfl h, ?_, (But.of_below HB1.out).trans (But.set g 2 _ _)⟩
      rw [rdN_ok, ek]
      exact rd_at HR1.out (k + sz)
    · have hc' : (code != 0) = true := by simpa using hcode
      have kF := hide1 (fail_any g k s f field code w1 hR1 hcode)
      clear hb1 hR1 k0
      go_wp2_with (go_at_call 27; refine kF.out.mono ?_; rintro e w2 ⟨rfl, rfl⟩)
      go_ret
      refine ⟨fun h => absurd h hcode, fun _ => rfl, ?_, ((But.of_below HB1.out).trans (But.set g 3 _ _)).trans (But.set g 4 _ _)⟩
      rw [rdN_no _ _ _ _ _ hcode]
      exact rd_fault HR1.out code field

set_option maxHeartbeats 1000000 in
theorem read_blob (g k sz : Nat) (s f field : ByteArray) (code : Int) (b : Nat) (t : ByteArray) (w : World) (h : w.heap[g]? = some (rdr s k 0 f)) (hk : k ≤ s.size) (hs : s.size ≤ 281474976710656) (hsz : sz ≤ 281474976710656)
    (HT : Hid (∀ w' : World, Below w.heap.size w w' → Calls Tryz.prog 44 #[.string (s.extract k s.size), .pointer (some ⟨b, 0, none⟩)] w' fun e w'' => e = .returned (.tuple #[.string t, .int .i64 (sz : Int), .int .i64 code]) ∧ Below w'.heap.size w' w'')) :
    Calls Tryz.prog 43 #[.pointer (some ⟨g, 0, none⟩), .string field, .func (.func 44) #[] #[.pointer (some ⟨b, 0, none⟩)]] w (RdP g k sz s f field code w (fun e _ => e = .returned (.string t)) (.string ⟨#[]⟩)) := by
  have k0 := hide1 (isOver_any g k s f 0 w h)
  obtain ⟨c0, c1, c2, c3, c4, lt⟩ := rd_cells h
  have hcut := run_from s k hk
  have HR := hide1 h
  have HLT := hide1 lt
  have kT := hide1 (HT.out w.drew ((Below.refl _ _).drew))
  clear h c0 c3 c4 HT
  generalize s.extract k s.size = rest at *
  go_enter Tryz.func43, Tryz.ntmps43
  go_upto_region 4 with (go_at_call 66; refine k0.out.mono ?_; rintro e w1 ⟨rfl, hw1⟩; cases hw1)
  go_region_with (go_at_call 44; refine kT.out.mono ?_; rintro e w1 ⟨rfl, hb1⟩)
  all_goals
    have hR1 : w1.heap[g]? = some (rdr s k 0 f) := (hb1.block g HLT.out).trans HR.out
    have HB1 : Hid (Below w.heap.size w w1) := (Below.refl _ _).drew.trans hb1
    have HR1 := hide1 hR1
    obtain ⟨c0, c1, c2, c3, c4, lt1⟩ := rd_cells hR1
    obtain ⟨f2, f3, f4⟩ := rd_free hR1
    by_cases hcode : code = 0
    · subst hcode
      clear hb1 hR1 k0
      go_wp2
      go_ret
      have ek : ((k : Int) + (sz : Int)) = (((k + sz : Nat)) : Int) := by omega
      refine ⟨fun _ => rfl, fun h => absurd rfl h, ?_, (But.of_below HB1.out).trans (But.set g 2 _ _)⟩
      rw [rdN_ok, ek]
      exact rd_at HR1.out (k + sz)
    · have hc' : (code != 0) = true := by simpa using hcode
      have kF := hide1 (fail_any g k s f field code w1 hR1 hcode)
      clear hb1 hR1 k0
      go_wp2_with (go_at_call 27; refine kF.out.mono ?_; rintro e w2 ⟨rfl, rfl⟩)
      go_ret
      refine ⟨fun h => absurd h hcode, fun _ => rfl, ?_, ((But.of_below HB1.out).trans (But.set g 3 _ _)).trans (But.set g 4 _ _)⟩
      rw [rdN_no _ _ _ _ _ hcode]
      exact rd_fault HR1.out code field

set_option maxHeartbeats 1000000 in
theorem read_raw (g k sz : Nat) (s f field : ByteArray) (code : Int) (b : Nat) (t : ByteArray) (w : World) (h : w.heap[g]? = some (rdr s k 0 f)) (hk : k ≤ s.size) (hs : s.size ≤ 281474976710656) (hsz : sz ≤ 281474976710656)
    (HT : Hid (∀ w' : World, Below w.heap.size w w' → Calls Tryz.prog 48 #[.string (s.extract k s.size), .pointer (some ⟨b, 0, none⟩)] w' fun e w'' => e = .returned (.tuple #[.string t, .int .i64 (sz : Int), .int .i64 code]) ∧ Below w'.heap.size w' w'')) :
    Calls Tryz.prog 43 #[.pointer (some ⟨g, 0, none⟩), .string field, .func (.func 48) #[] #[.pointer (some ⟨b, 0, none⟩)]] w (RdP g k sz s f field code w (fun e _ => e = .returned (.string t)) (.string ⟨#[]⟩)) := by
  have k0 := hide1 (isOver_any g k s f 0 w h)
  obtain ⟨c0, c1, c2, c3, c4, lt⟩ := rd_cells h
  have hcut := run_from s k hk
  have HR := hide1 h
  have HLT := hide1 lt
  have kT := hide1 (HT.out w.drew ((Below.refl _ _).drew))
  clear h c0 c3 c4 HT
  generalize s.extract k s.size = rest at *
  go_enter Tryz.func43, Tryz.ntmps43
  go_upto_region 4 with (go_at_call 66; refine k0.out.mono ?_; rintro e w1 ⟨rfl, hw1⟩; cases hw1)
  go_region_with (go_at_call 48; refine kT.out.mono ?_; rintro e w1 ⟨rfl, hb1⟩)
  all_goals
    have hR1 : w1.heap[g]? = some (rdr s k 0 f) := (hb1.block g HLT.out).trans HR.out
    have HB1 : Hid (Below w.heap.size w w1) := (Below.refl _ _).drew.trans hb1
    have HR1 := hide1 hR1
    obtain ⟨c0, c1, c2, c3, c4, lt1⟩ := rd_cells hR1
    obtain ⟨f2, f3, f4⟩ := rd_free hR1
    by_cases hcode : code = 0
    · subst hcode
      clear hb1 hR1 k0
      go_wp2
      go_ret
      have ek : ((k : Int) + (sz : Int)) = (((k + sz : Nat)) : Int) := by omega
      refine ⟨fun _ => rfl, fun h => absurd rfl h, ?_, (But.of_below HB1.out).trans (But.set g 2 _ _)⟩
      rw [rdN_ok, ek]
      exact rd_at HR1.out (k + sz)
    · have hc' : (code != 0) = true := by simpa using hcode
      have kF := hide1 (fail_any g k s f field code w1 hR1 hcode)
      clear hb1 hR1 k0
      go_wp2_with (go_at_call 27; refine kF.out.mono ?_; rintro e w2 ⟨rfl, rfl⟩)
      go_ret
      refine ⟨fun h => absurd h hcode, fun _ => rfl, ?_, ((But.of_below HB1.out).trans (But.set g 3 _ _)).trans (But.set g 4 _ _)⟩
      rw [rdN_no _ _ _ _ _ hcode]
      exact rd_fault HR1.out code field

end Go.Proofs.YtmmhfipdolbinaaGreatDoor

namespace Go.Proofs.YtmmhfipdolbinaaGreatDoor
open Go.RowKit
set_option maxRecDepth 100000
attribute [local go_sem] not_any mf_any

theorem size_any (n : Int) (t : ByteArray) (w : World) (ht : t.size ≤ 281474976710656) :
    Calls Tryz.prog 47 #[.agg #[.int .i64 n, .string t]] w fun e w' => e = .returned (.int .i64 ((4 + t.size : Nat) : Int)) ∧ w' = w.alloc (.cells #[.int .i64 n, .string t] 88) := by
  go_enter Tryz.func47, Tryz.ntmps47
  go_wp2
  go_ret
  refine ⟨?_, rfl⟩
  rw [Int.natCast_add]
  rfl

def mostN (most : Int) (top : Int) : Int := if most ≤ top then most else top
theorem mostN_le (most top : Int) : mostN most top ≤ top := by unfold mostN; split <;> omega

theorem mostN_cases (most top : Int) : (most ≤ top ∧ mostN most top = most) ∨ (¬ most ≤ top ∧ mostN most top = top) := by
  by_cases h : most ≤ top
  · exact .inl ⟨h, if_pos h⟩
  · exact .inr ⟨h, if_neg h⟩
theorem lstH_lt (tb : Nat) (t : ByteArray) : Lt 256 (lstH tb (nums t)) := ((nums_all t).drop 4).take _

/- what Blob's function answers -/
def BPost (code : Int) (tv : ByteArray) (w : World) (e : Ending) (w' : World) : Prop := e = .returned (.tuple #[.string tv, .int .i64 ((4 + tv.size : Nat) : Int), .int .i64 code]) ∧ Below w.heap.size w w'
def blobT (most : Int) (R : List Nat) : ByteArray := if lstC (mostN most 65536) 8 R = 0 then txt (lstH 8 R) else ⟨#[]⟩

set_option maxHeartbeats 2000000 in
theorem blob1_any (most : Int) (b : Nat) (t : ByteArray) (w : World) (hbx : w.cell? ⟨b, 0, none⟩ = some (.int .i64 most)) (ht : t.size ≤ 281474976710656) :
    Calls Tryz.prog 44 #[.string t, .pointer (some ⟨b, 0, none⟩)] w (BPost (lstC (mostN most 65536) 8 (nums t)) (blobT most (nums t)) w) := by
  have k1 := hide1 (counted_any (mostN most 65536) 8 t w (by have := mostN_le most 65536; omega) (by omega) ht)
  have HK : Hid (∃ cn tv, blobT most (nums t) = tv ∧ tv.size ≤ 281474976710656 ∧ ∀ e w', LPost (mostN most 65536) 8 (nums t) w e w' → e = .returned (.tuple #[.agg #[.int .i64 cn, .string tv], .int .i64 (lstC (mostN most 65536) 8 (nums t))]) ∧ Below w.heap.size w w') := by
    by_cases hc : lstC (mostN most 65536) 8 (nums t) = 0
    · refine ⟨_, txt (lstH 8 (nums t)), by rw [blobT, if_pos hc], ?_, fun e w' hp => ⟨by rw [hc]; exact hp.1 hc, hp.2.2⟩⟩
      have h1 := lstH_length hc
      have h2 := nums_length t
      rw [txt_size (lstH_lt 8 t)]
      omega
    · exact ⟨0, ⟨#[]⟩, by rw [blobT, if_neg hc], by decide, fun e w' hp => ⟨hp.2.1 hc, hp.2.2⟩⟩
  obtain ⟨cn, tv, e1, e2, HP⟩ := HK.out
  have HP' := hide1 HP
  rw [e1]
  have kC := fun w => hide1 (clone_any tv w e2)
  have kS := fun w => hide1 (size_any cn tv w e2)
  clear HK HP e1 e2
  generalize lstC (mostN most 65536) 8 (nums t) = code at *
  generalize LPost (mostN most 65536) 8 (nums t) w = PL at *
  rcases mostN_cases most 65536 with ⟨hm, em⟩ | ⟨hm, em⟩ <;> rw [em] at k1 <;> clear em
  all_goals
    go_enter Tryz.func44, Tryz.ntmps44
    go_wp2_with fail
    refine k1.out.mono ?_
    intro e w1 hP1
    obtain ⟨rfl, hb1⟩ := HP'.out e w1 hP1
    clear hP1 k1
    go_upto_region 2 with (fail)
    generalize hX : World.alloc w1 _ = X
    have hx : X.heap[w1.heap.size]? = some (.cells #[.int .i64 cn, .string tv] 88 (0, 0)) := by rw [← hX]; exact heap_alloc_new _ _
    have HX := hide1 hx
    have HB : Hid (Below w.heap.size w X) := by rw [← hX]; exact hb1.alloc hb1.size _
    obtain ⟨c0, c1, _, _, lx⟩ := box2 hx
    clear hX hx hb1
    go_region_with (first | (go_at_call 46; refine (kC _).out.mono ?_; rintro e w2 ⟨rfl, hb2⟩; have hx2 := (hb2.block _ (lt_heap HX.out)).trans HX.out; obtain ⟨d0, d1, _, _, lx2⟩ := box2 hx2; have HB2 := hide1 (HB.out.drew.trans (hb2.mono HB.out.size)); clear hx2 hb2) | (go_at_call 47; refine (kS _).out.mono ?_; rintro e w3 ⟨rfl, rfl⟩))
    all_goals
      go_wp2
      go_ret3
      exact ⟨rfl, HB2.out.alloc HB2.out.size _⟩
end Go.Proofs.YtmmhfipdolbinaaGreatDoor
