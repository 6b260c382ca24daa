/- The chapter's example. -/
import Derived.Test.YtnpanmdajcbbfaaL
import Derived.Test.YtnpanmdajcbbfaaM
import Derived.Test.YtnpanmdajcbbfaaG
namespace Go.Proofs.Ytnpanmdajcbbfaa
open Go.RowKit
set_option maxRecDepth 100000
attribute [local go_sem] not_any mf_any field_words

theorem need31 : need 3 64 = 1 := by decide
def ex : List Bool := [true, false, true]
theorem ex_words : chunks 64 ex = [5] := by decide
theorem ex_bytes : chunks 8 ex = [5] := by decide
theorem ex_text : txt [5] = ⟨#[5]⟩ := by decide
theorem ex_not : chunks 64 (ex.map (!·)) = [2] := by decide

theorem lit_nl {w : World} {g x : Nat} (h : w.heap[g]? = some (.cells #[.int .u64 (x : Int)] 55 (0, 0))) : Nl w 1 (some ⟨g, 0, none⟩) [x] :=
  ⟨rfl, fun j y hj => by
    match j, hj with
    | 0, hj =>
      cases hj
      exact ⟨g, 0, rfl, by rw [cell_of_row w g _ _ _ _ h]; rfl⟩
    | j + 1, hj => simp at hj⟩

/- bits, and the box that holds them, in a world behind B -/
structure Sx (B : World) (b t n m : Nat) (a : Option Addr) (l : List Bool) (W : World) : Prop where
  vc : Vc b W n a l
  bx : W.heap[t]? = some (.cells #[.int .i64 (n : Int), .slice a m m] 26 (0, 0))
  bl : Below B.heap.size B W

theorem Sx.next {B W W' : World} {b t n m : Nat} {a : Option Addr} {l : List Bool} (h : Sx B b t n m a l W) (hb : Below W.heap.size W W') : Sx B b t n m a l W' :=
  ⟨h.vc.below hb (Nat.le_refl _), (hb.block _ (lt_heap h.bx)).trans h.bx, h.bl.trans (hb.mono h.bl.size)⟩

theorem below_alloc1 (w : World) (o : Obj) : Below w.heap.size w (w.alloc o) := (Below.refl _ _).alloc (Nat.le_refl _) _

set_option maxHeartbeats 2000000 in
theorem awake_any (w : World) : Calls Try.prog 9 #[] w fun e w' => e = .returned (.bool true) ∧ Below w.heap.size w w' := by
  have hOf := fun w (a : Option Addr) h => hide1 (of_any w 3 3 a ex h (by omega))
  have hRaw := fun b w (a : Option Addr) l h => hide1 (raw_any b w 3 a l h (by omega))
  have hBy := fun b w (a : Option Addr) h => hide1 (bytes_any b w 3 a ex h (by omega))
  have hCo := fun b w (a : Option Addr) h => hide1 (count_any b w 3 a ex h (by omega))
  have hNo := fun b w (a : Option Addr) h => hide1 (vnot_any b w 3 a ex h (by omega))
  have hNu := fun w (a b : Option Addr) x h1 h2 => hide1 (nums_any w 1 1 1 a b [x] h1 h2 (by omega))
  rw [need31] at hOf hRaw hBy hCo hNo
  rw [ex_bytes, ex_text] at hBy
  rw [show ex.count true = 2 by decide] at hCo
  go_enter Try.func9, Try.ntmps9
  go_wp2_with fail
  refine (hOf _ _ ?_).out.mono ?_
  · have := bl_of_row (w := w.alloc (.cells #[.bool true, .bool false, .bool true] 4)) (g := w.heap.size) (l := ex) (heap_alloc_new _ _)
    exact this
  rintro e w1 ⟨av, rfl, hv, hb⟩
  have S1 : Hid (Sx w _ w1.heap.size 3 1 av ex (w1.alloc (.cells #[.int .i64 3, .slice av 1 1] 26))) := ⟨hv.alloc _, heap_alloc_new _ _, (below_after hb).alloc (by have := (below_after hb).size; omega) _⟩
  clear hv hb
  go_wp2_with fail
  refine (hRaw _ _ _ _ S1.out.vc).out.mono ?_
  rintro e w2 ⟨a2, rfl, hr2, hb2⟩
  have S2 := hide1 (S1.out.next hb2)
  clear S1 hb2
  go_wp2_with fail
  refine (hNu _ _ _ 5 ?_ (lit_nl (heap_alloc_new _ _))).out.mono ?_
  · have := (hr2.alloc (.cells #[.int .u64 5] 55)).nl
    rw [need31, ex_words] at this
    exact this
  rintro e w3 ⟨rfl, hq3⟩
  have S3 : Hid (Sx w _ w1.heap.size 3 1 av ex w3) := S2.out.next (by obtain ⟨q, rfl⟩ := hq3; exact below_drewN (below_alloc1 _ _) q)
  obtain ⟨c0, c1, _, _, _⟩ := box2 S3.out.bx
  clear S2 hr2 hq3
  go_wp2_with fail
  refine (hBy _ _ _ S3.out.vc).out.mono ?_
  rintro e w4 ⟨rfl, hb4⟩
  have S4 := hide1 (S3.out.next hb4)
  obtain ⟨d0, d1, _, _, _⟩ := box2 S4.out.bx
  clear S3 hb4 c0 c1
  go_wp2_with fail
  refine (hCo _ _ _ S4.out.vc).out.mono ?_
  rintro e w5 ⟨rfl, rfl⟩
  have S5 := hide1 (S4.out.next (below_alloc1 w4 (.cells #[.int .i64 3, .slice av 1 1] 26)))
  clear S4
  go_wp2_with fail
  refine (hNo _ _ _ S5.out.vc).out.mono ?_
  rintro e w6 ⟨a6, rfl, hv6, hb6⟩
  have S6 := hide1 (S5.out.next hb6)
  have V6 := hide1 hv6
  clear S5 hb6 hv6
  go_wp2_with fail
  refine (hRaw _ _ _ _ V6.out).out.mono ?_
  rintro e w7 ⟨a7, rfl, hr7, hb7⟩
  have S7 := hide1 (S6.out.next hb7)
  have V7 := hide1 hr7
  clear S6 hb7 V6 hr7
  go_wp2_with fail
  refine (hNu _ _ _ 2 ?_ (lit_nl (heap_alloc_new _ _))).out.mono ?_
  · have := (V7.out.alloc (.cells #[.int .u64 2] 55)).nl
    rw [need31, ex_not] at this
    exact this
  rintro e w8 ⟨rfl, hq8⟩
  have S8 : Hid (Sx w _ w1.heap.size 3 1 av ex w8) := S7.out.next (by obtain ⟨q, rfl⟩ := hq8; exact below_drewN (below_alloc1 _ _) q)
  clear S7 hq8 V7
  go_wp2
  go_ret
  exact ⟨rfl, S8.out.bl⟩

end Go.Proofs.Ytnpanmdajcbbfaa
