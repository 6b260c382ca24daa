/- The chapter's example. Regions that draw, whose calls only make memory. -/
import Derived.Test.YtcgpokbijaioiaaXc
import Derived.BigQuiet
namespace Go.Proofs.Ytcgpokbijaioiaa
open Go.RowKit
set_option maxRecDepth 100000
attribute [local go_sem] not_any mf_any

theorem ex_txt : txt (encB 3 1 2 0 5 ⟨#[]⟩) = ⟨#[3, 0, 0, 0, 1, 0, 0, 0, 2, 0, 0, 0, 0, 0, 0, 0, 5]⟩ := by decide +kernel
theorem ex_chk : chk ((3 : Nat) : Int) ((1 : Nat) : Int) ((2 : Nat) : Int) ((0 : Nat) : Int) ((5 : Nat) : Int) (ByteArray.size ⟨#[]⟩) = 0 := by decide +kernel

theorem awake_any (w : World) : Calls Try.prog 5 #[] w fun e w' => e = .returned (.bool true) ∧ Below w.heap.size w w' := by
  have mx := mixed
  have k := fun w => hide1 (encode_ok 3 1 2 0 5 ⟨#[]⟩ w ex_chk (by decide) (by decide) (by decide) (by decide))
  rw [ex_txt] at k
  have k1 : ∀ w, Hid (Calls Try.prog 6 #[.agg #[.int .i64 3, .int .u32 1, .int .u32 2, .int .u32 0, .int .u32 5, .string ⟨#[]⟩]] w fun e w' => e = .returned (.tuple #[.string ⟨#[3, 0, 0, 0, 1, 0, 0, 0, 2, 0, 0, 0, 0, 0, 0, 0, 5]⟩, .nilIface]) ∧ Below w.heap.size w w') := fun w => (k w).out
  clear k
  go_enter Try.func5, Try.ntmps5
  go_wp2_with (go_at_call 6; refine (k1 _).out.mono ?_; rintro e w1 ⟨rfl, hb⟩)
  go_ret
  exact ⟨rfl, hb⟩

/- a world in which all that was there in W is as it was -/
structure Bw (W : World) where
  w : World
  h : Below W.heap.size W w
theorem wp_region_quiet_bw {P : Program} {id : Nat} {Q : Exit → Act → World → Prop} {a : Act} {w : World} {l : List Oper} (hm : P.follows .mixedOrders = true) (hB : Region.lexB .any l.toArray = true)
    (h : wpQuiet P l.toArray (fun w' => ∃ p : Bw w, w' = p.w) (fun a' => ∀ w', (∃ p : Bw w, w' = p.w) → Q .normal a' w') l a) : (Code.region id l.toArray true).wp P Q a w :=
  wp_region_quiet (C := fun w' => ∃ p : Bw w, w' = p.w) hm hB ⟨⟨w.drew, (Below.refl _ _).drew⟩, rfl⟩ (by simpa using h)
theorem bw_of {P : Program} {f : FuncId} {args : Array Value} {W : World} {p : Bw W} {v : Value}
    (h : Calls P f args p.w fun e w' => e = .returned v ∧ Below p.w.heap.size p.w w') : Calls P f args p.w fun e w'' => e = .returned v ∧ ∃ p : Bw W, w'' = p.w :=
  h.mono fun _ w'' ⟨he, hb⟩ => ⟨he, ⟨w'', p.h.trans (hb.mono p.h.size)⟩, rfl⟩
theorem bw_cell {W : World} {a : Addr} {v : Value} (h : W.cell? a = some v) (p : Bw W) : p.w.cell? a = some v := (p.h.cell (block_lt_of_cell h)).trans h

set_option maxHeartbeats 1000000 in
theorem for_all (w : World) (k : Int) (o p q a : Nat) (b : ByteArray) (own peer : Nat) :
    Calls Try.prog 4 #[fra k o p q a b, .int .u32 (own : Int), .int .u32 (peer : Int)] w fun e w' => e = .returned (.bool true) ∧ Below w.heap.size w w' := by
  have mx := mixed
  have kO := fun w => hide1 (of_any k o p q a b w)
  have kF := fun w => hide1 (for_any k o p q a b own peer w)
  have kR := fun w => hide1 (rfor_any k o p q a b own peer w)
  have kA := fun w => hide1 (awake_any w)
  generalize frC k o p own peer = c at *
  unfold fra at *
  go_enter Try.func4, Try.ntmps4
  go_upto_region 1 with (fail)
  generalize hX : World.alloc w _ = X
  have HX : Hid (Below w.heap.size w X) := by rw [← hX]; exact below1 _
  have h0 := hX ▸ heap_alloc_new w _
  obtain ⟨c0, c1, c2, c3, c4, c5, l0⟩ := box6 h0
  clear hX h0
  have hne : Nonempty (Bw X) := ⟨⟨X, Below.refl _ _⟩⟩
  have d0 := bw_cell c0
  have d1 := bw_cell c1
  have d2 := bw_cell c2
  have d3 := bw_cell c3
  have d4 := bw_cell c4
  have d5 := bw_cell c5
  clear c0 c1 c2 c3 c4 c5
  refine wp_region_quiet_bw mx (by kernel_rfl) ?_
  repeat go_big_quiet_step (first | (go_at_call 7; exact bw_of (kO _).out) | (go_at_call 10; exact bw_of (kF _).out) | (go_at_call 11; exact bw_of (kR _).out) | (go_at_call 5; exact bw_of (kA _).out))
  rintro w' ⟨P, rfl⟩
  go_wp2
  go_ret
  exact ⟨rfl, HX.out.trans (P.h.mono HX.out.size)⟩
end Go.Proofs.Ytcgpokbijaioiaa
