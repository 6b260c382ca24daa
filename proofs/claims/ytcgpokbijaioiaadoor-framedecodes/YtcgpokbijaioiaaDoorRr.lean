/- A field read: whole or not at all. -/
import Derived.Test.YtcgpokbijaioiaaDoorRt
namespace Go.Proofs.YtcgpokbijaioiaaDoor
open Go.RowKit
set_option maxRecDepth 100000
attribute [local go_sem] not_any mf_any

/- where the reader is behind a field, and its fault -/
def rdN (s : ByteArray) (k sz : Nat) (f field : ByteArray) (code : Int) : Obj := if code = 0 then rdr s (k + sz) 0 f else rdr s k code field
theorem rdN_ok (s : ByteArray) (k sz : Nat) (f field : ByteArray) : rdN s k sz f field 0 = rdr s (k + sz) 0 f := rfl
theorem rdN_no (s : ByteArray) (k sz : Nat) (f field : ByteArray) {code : Int} (h : code ≠ 0) : rdN s k sz f field code = rdr s k code field := if_neg h
structure RdP (g k sz : Nat) (s f field : ByteArray) (code : Int) (w : World) (good : Ending → World → Prop) (zero : Value) (e : Ending) (w' : World) : Prop where
  good : code = 0 → good e w'
  bad : code ≠ 0 → e = .returned zero
  row : w'.heap[g]? = some (rdN s k sz f field code)
  but : But g w w'

theorem over_num (g k : Nat) (s f field : ByteArray) (c : Int) (fv : Value) (w : World) (h : w.heap[g]? = some (rdr s k c f)) (hc : c ≠ 0) :
    Calls Tryd.prog 64 #[.pointer (some ⟨g, 0, none⟩), .string field, fv] w fun e w' => e = .returned (.int .u64 0) ∧ w' = w := by
  have k0 := hide1 (isOver_any g k s f c w h)
  rw [show (c != 0) = true by simpa using hc] at k0
  clear h
  go_enter Tryd.func64, Tryd.ntmps64
  go_wp2_with (go_at_call 68; refine k0.out.mono ?_; rintro e w' ⟨rfl, rfl⟩)
  go_ret
  exact ⟨rfl, rfl⟩

set_option maxHeartbeats 1000000 in
theorem read_num (g k sz : Nat) (s f field : ByteArray) (code : Int) (b : Nat) (x : Nat) (w : World) (h : w.heap[g]? = some (rdr s k 0 f)) (hk : k ≤ s.size) (hs : s.size ≤ 281474976710656) (hsz : sz ≤ 281474976710656)
    (HT : Hid (∀ w' : World, Below w.heap.size w w' → Calls Tryd.prog 65 #[.string (s.extract k s.size), .pointer (some ⟨b, 0, none⟩)] w' fun e w'' => e = .returned (.tuple #[.int .u64 (x : Int), .int .i64 (sz : Int), .int .i64 code]) ∧ Below w'.heap.size w' w'')) :
    Calls Tryd.prog 64 #[.pointer (some ⟨g, 0, none⟩), .string field, .func (.func 65) #[] #[.pointer (some ⟨b, 0, none⟩)]] w (RdP g k sz s f field code w (fun e _ => e = .returned (.int .u64 (x : Int))) (.int .u64 0)) := by
  have k0 := hide1 (isOver_any g k s f 0 w h)
  obtain ⟨c0, c1, c2, c3, c4, lt⟩ := rd_cells h
  have hcut := run_from s k hk
  have HR := hide1 h
  have HLT := hide1 lt
  have kT := hide1 (HT.out w.drew ((Below.refl _ _).drew))
  clear h c0 c3 c4 HT
  generalize s.extract k s.size = rest at *
  go_enter Tryd.func64, Tryd.ntmps64
  go_upto_region 4 with (go_at_call 68; refine k0.out.mono ?_; rintro e w1 ⟨rfl, hw1⟩; cases hw1)
  go_region_with (go_at_call 65; refine kT.out.mono ?_; rintro e w1 ⟨rfl, hb1⟩)
  all_goals
    have hR1 : w1.heap[g]? = some (rdr s k 0 f) := (hb1.block g HLT.out).trans HR.out
    have HB1 : Hid (Below w.heap.size w w1) := (Below.refl _ _).drew.trans hb1
    have HR1 := hide1 hR1
    obtain ⟨c0, c1, c2, c3, c4, lt1⟩ := rd_cells hR1
    obtain ⟨f2, f3, f4⟩ := rd_free hR1
    by_cases hcode : code = 0
    · subst hcode
      clear hb1 hR1 k0
      go_wp2
      go_ret
      have ek : ((k : Int) + (sz : Int)) = (((k + sz : Nat)) : Int) := by omega
      refine ⟨fun _ => rfl, fun h => absurd rfl h, ?_, (But.of_below HB1.out).trans (But.set g 2 _ _)⟩
      rw [rdN_ok, ek]
      exact rd_at HR1.out (k + sz)
    · have hc' : (code != 0) = true := by simpa using hcode
      have kF := hide1 (fail_any g k s f field code w1 hR1 hcode)
      clear hb1 hR1 k0
      go_wp2_with (go_at_call 69; refine kF.out.mono ?_; rintro e w2 ⟨rfl, rfl⟩)
      go_ret
      refine ⟨fun h => absurd h hcode, fun _ => rfl, ?_, ((But.of_below HB1.out).trans (But.set g 3 _ _)).trans (But.set g 4 _ _)⟩
      rw [rdN_no _ _ _ _ _ hcode]
      exact rd_fault HR1.out code field

end Go.Proofs.YtcgpokbijaioiaaDoor
