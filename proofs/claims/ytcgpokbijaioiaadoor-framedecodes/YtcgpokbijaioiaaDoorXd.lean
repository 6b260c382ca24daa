/- The chapter's example. Regions that draw, whose calls only make memory. -/
import Derived.Test.YtcgpokbijaioiaaDoorXc
import Derived.BigQuiet
namespace Go.Proofs.YtcgpokbijaioiaaDoor
open Go.RowKit
set_option maxRecDepth 100000
attribute [local go_sem] not_any mf_any

theorem ex_txt : txt (encB 3 1 2 0 5 ⟨#[]⟩) = ⟨#[3, 0, 0, 0, 1, 0, 0, 0, 2, 0, 0, 0, 0, 0, 0, 0, 5]⟩ := by decide +kernel
theorem ex_chk : chk ((3 : Nat) : Int) ((1 : Nat) : Int) ((2 : Nat) : Int) ((0 : Nat) : Int) ((5 : Nat) : Int) (ByteArray.size ⟨#[]⟩) = 0 := by decide +kernel

theorem awake_any (w : World) : Calls Tryd.prog 5 #[] w fun e w' => e = .returned (.bool true) ∧ Below w.heap.size w w' := by
  have mx := mixed
  have k := fun w => hide1 (encode_ok 3 1 2 0 5 ⟨#[]⟩ w ex_chk (by decide) (by decide) (by decide) (by decide))
  rw [ex_txt] at k
  have k1 : ∀ w, Hid (Calls Tryd.prog 6 #[.agg #[.int .i64 3, .int .u32 1, .int .u32 2, .int .u32 0, .int .u32 5, .string ⟨#[]⟩]] w fun e w' => e = .returned (.tuple #[.string ⟨#[3, 0, 0, 0, 1, 0, 0, 0, 2, 0, 0, 0, 0, 0, 0, 0, 5]⟩, .nilIface]) ∧ Below w.heap.size w w') := fun w => (k w).out
  clear k
  go_enter Tryd.func5, Tryd.ntmps5
  go_wp2_with (go_at_call 6; refine (k1 _).out.mono ?_; rintro e w1 ⟨rfl, hb⟩)
  go_ret
  exact ⟨rfl, hb⟩

/- a world in which all that was there in W is as it was -/
structure Bw (W : World) where
  w : World
  h : Below W.heap.size W w
theorem wp_region_quiet_bw {P : Program} {id : Nat} {Q : Exit → Act → World → Prop} {a : Act} {w : World} {l : List Oper} (hm : P.follows .mixedOrders = true) (hB : Region.lexB .any l.toArray = true)
    (h : wpQuiet P l.toArray (fun w' => ∃ p : Bw w, w' = p.w) (fun a' => ∀ w', (∃ p : Bw w, w' = p.w) → Q .normal a' w') l a) : (Code.region id l.toArray true).wp P Q a w :=
  wp_region_quiet (C := fun w' => ∃ p : Bw w, w' = p.w) hm hB ⟨⟨w.drew, (Below.refl _ _).drew⟩, rfl⟩ (by simpa using h)
theorem bw_of {P : Program} {f : FuncId} {args : Array Value} {W : World} {p : Bw W} {v : Value}
    (h : Calls P f args p.w fun e w' => e = .returned v ∧ Below p.w.heap.size p.w w') : Calls P f args p.w fun e w'' => e = .returned v ∧ ∃ p : Bw W, w'' = p.w :=
  h.mono fun _ w'' ⟨he, hb⟩ => ⟨he, ⟨w'', p.h.trans (hb.mono p.h.size)⟩, rfl⟩
theorem bw_cell {W : World} {a : Addr} {v : Value} (h : W.cell? a = some v) (p : Bw W) : p.w.cell? a = some v := (p.h.cell (block_lt_of_cell h)).trans h

end Go.Proofs.YtcgpokbijaioiaaDoor
