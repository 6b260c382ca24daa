/- Texts and numbers read. -/
import Derived.Test.YtmmhfipdolbinaaDoorRr
namespace Go.Proofs.YtmmhfipdolbinaaDoor
open Go.RowKit
set_option maxRecDepth 100000
attribute [local go_sem] not_any mf_any

theorem size_any (n : Int) (t : ByteArray) (w : World) (ht : t.size ≤ 281474976710656) :
    Calls Tryd.prog 28 #[.agg #[.int .i64 n, .string t]] w fun e w' => e = .returned (.int .i64 ((4 + t.size : Nat) : Int)) ∧ w' = w.alloc (.cells #[.int .i64 n, .string t] 58) := by
  go_enter Tryd.func28, Tryd.ntmps28
  go_wp2
  go_ret
  refine ⟨?_, rfl⟩
  rw [Int.natCast_add]
  rfl

def mostN (most : Int) (top : Int) : Int := if most ≤ top then most else top
theorem mostN_le (most top : Int) : mostN most top ≤ top := by unfold mostN; split <;> omega

theorem mostN_cases (most top : Int) : (most ≤ top ∧ mostN most top = most) ∨ (¬ most ≤ top ∧ mostN most top = top) := by
  by_cases h : most ≤ top
  · exact .inl ⟨h, if_pos h⟩
  · exact .inr ⟨h, if_neg h⟩
theorem lstH_lt (tb : Nat) (t : ByteArray) : Lt 256 (lstH tb (nums t)) := ((nums_all t).drop 4).take _

/- what Blob's function answers -/
def BPost (code : Int) (tv : ByteArray) (w : World) (e : Ending) (w' : World) : Prop := e = .returned (.tuple #[.string tv, .int .i64 ((4 + tv.size : Nat) : Int), .int .i64 code]) ∧ Below w.heap.size w w'
def blobT (most : Int) (R : List Nat) : ByteArray := if lstC (mostN most 65536) 8 R = 0 then txt (lstH 8 R) else ⟨#[]⟩

set_option maxHeartbeats 2000000 in
theorem blob1_any (most : Int) (b : Nat) (t : ByteArray) (w : World) (hbx : w.cell? ⟨b, 0, none⟩ = some (.int .i64 most)) (ht : t.size ≤ 281474976710656) :
    Calls Tryd.prog 25 #[.string t, .pointer (some ⟨b, 0, none⟩)] w (BPost (lstC (mostN most 65536) 8 (nums t)) (blobT most (nums t)) w) := by
  have k1 := hide1 (counted_any (mostN most 65536) 8 t w (by have := mostN_le most 65536; omega) (by omega) ht)
  have HK : Hid (∃ cn tv, blobT most (nums t) = tv ∧ tv.size ≤ 281474976710656 ∧ ∀ e w', LPost (mostN most 65536) 8 (nums t) w e w' → e = .returned (.tuple #[.agg #[.int .i64 cn, .string tv], .int .i64 (lstC (mostN most 65536) 8 (nums t))]) ∧ Below w.heap.size w w') := by
    by_cases hc : lstC (mostN most 65536) 8 (nums t) = 0
    · refine ⟨_, txt (lstH 8 (nums t)), by rw [blobT, if_pos hc], ?_, fun e w' hp => ⟨by rw [hc]; exact hp.1 hc, hp.2.2⟩⟩
      have h1 := lstH_length hc
      have h2 := nums_length t
      rw [txt_size (lstH_lt 8 t)]
      omega
    · exact ⟨0, ⟨#[]⟩, by rw [blobT, if_neg hc], by decide, fun e w' hp => ⟨hp.2.1 hc, hp.2.2⟩⟩
  obtain ⟨cn, tv, e1, e2, HP⟩ := HK.out
  have HP' := hide1 HP
  rw [e1]
  have kC := fun w => hide1 (clone_any tv w e2)
  have kS := fun w => hide1 (size_any cn tv w e2)
  clear HK HP e1 e2
  generalize lstC (mostN most 65536) 8 (nums t) = code at *
  generalize LPost (mostN most 65536) 8 (nums t) w = PL at *
  rcases mostN_cases most 65536 with ⟨hm, em⟩ | ⟨hm, em⟩ <;> rw [em] at k1 <;> clear em
  all_goals
    go_enter Tryd.func25, Tryd.ntmps25
    go_wp2_with fail
    refine k1.out.mono ?_
    intro e w1 hP1
    obtain ⟨rfl, hb1⟩ := HP'.out e w1 hP1
    clear hP1 k1
    go_upto_region 2 with (fail)
    generalize hX : World.alloc w1 _ = X
    have hx : X.heap[w1.heap.size]? = some (.cells #[.int .i64 cn, .string tv] 58 (0, 0)) := by rw [← hX]; exact heap_alloc_new _ _
    have HX := hide1 hx
    have HB : Hid (Below w.heap.size w X) := by rw [← hX]; exact hb1.alloc hb1.size _
    obtain ⟨c0, c1, _, _, lx⟩ := box2 hx
    clear hX hx hb1
    go_region_with (first | (go_at_call 27; refine (kC _).out.mono ?_; rintro e w2 ⟨rfl, hb2⟩; have hx2 := (hb2.block _ (lt_heap HX.out)).trans HX.out; obtain ⟨d0, d1, _, _, lx2⟩ := box2 hx2; have HB2 := hide1 (HB.out.drew.trans (hb2.mono HB.out.size)); clear hx2 hb2) | (go_at_call 28; refine (kS _).out.mono ?_; rintro e w3 ⟨rfl, rfl⟩))
    all_goals
      go_wp2
      go_ret3
      exact ⟨rfl, HB2.out.alloc HB2.out.size _⟩
end Go.Proofs.YtmmhfipdolbinaaDoor
