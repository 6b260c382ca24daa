/- The law WireWrites, walked. -/
import Derived.Test.YtmmhfipdolbinaaWk
namespace Go.Proofs.Ytmmhfipdolbinaa
open Go.RowKit
set_option maxRecDepth 100000
attribute [local go_sem] not_any mf_any

set_option maxHeartbeats 1000000 in
theorem writes_all (W : World) (n c : Nat) (a : Option Addr) (l : List It) (hl : Its W n a l) (hh : ∀ i ∈ l, Held i) (hn : n ≤ 281474976710656) :
    Calls Try.prog 3 #[.slice a n c] W fun e w' => e = .returned (.bool true) ∧ Below W.heap.size W w' := by
  have k0 := hide1 (small_any W n c a l hl hh hn)
  have HI := hide1 hl
  clear hl hh hn
  go_enter Try.func3, Try.ntmps3
  go_wp2_with fail
  refine k0.out.mono ?_
  rintro e w1 ⟨b, rfl, hb, q, rfl⟩
  have hq : Below W.heap.size W (W.drewN q) := ⟨rfl, rfl, rfl, Nat.le_refl _, fun _ _ => rfl⟩
  have HQ := hide1 hq
  cases b with
  | false =>
    have kA := fun w => hide1 (awake_any w)
    clear hb k0 hq
    go_wp2_with (go_at_call 6; refine (kA _).out.mono ?_; rintro e w2 ⟨rfl, hb2⟩)
    go_ret
    exact ⟨rfl, HQ.out.trans (hb2.mono (Nat.le_refl _))⟩
  | true =>
    obtain ⟨h40, hfit⟩ := hb rfl
    have k1 := hide1 (written_any (W.drewN q) n c a l (HI.out.next hq) hfit h40)
    have HK2 : Hid (∀ w2, Below W.heap.size W w2 → Calls Try.prog 8 #[.slice a n c] w2 fun e w' => e = .returned (.string (txt (itsB l))) ∧ Below w2.heap.size w2 w') := fun w2 h2 => wanted_any w2 n c a l (HI.out.next h2) hfit h40
    have kA := fun w => hide1 (awake_any w)
    clear hb k0 hq hfit
    generalize txt (itsB l) = t at *
    go_wp2_with fail
    refine k1.out.mono ?_
    rintro e w2 ⟨rfl, hb2⟩
    have hB2 : Below W.heap.size W w2 := HQ.out.trans (hb2.mono (Nat.le_refl _))
    have k2 := hide1 (HK2.out w2 hB2)
    have HB2 := hide1 hB2
    clear k1 HK2 hb2 hB2
    go_wp2_with fail
    refine k2.out.mono ?_
    rintro e w3 ⟨rfl, hb3⟩
    have HB3 := hide1 (HB2.out.trans (hb3.mono HB2.out.size))
    clear k2 hb3
    go_wp2_with (go_at_call 6; refine (kA _).out.mono ?_; rintro e w4 ⟨rfl, hb4⟩)
    go_ret
    exact ⟨rfl, HB3.out.trans (hb4.mono HB3.out.size)⟩
end Go.Proofs.Ytmmhfipdolbinaa
