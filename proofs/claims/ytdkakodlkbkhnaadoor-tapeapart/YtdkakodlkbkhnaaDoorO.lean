/- The chapter's example. -/
import Derived.Test.YtdkakodlkbkhnaaDoorN
namespace Go.Proofs.YtdkakodlkbkhnaaDoor
open Go.RowKit
set_option maxRecDepth 100000
attribute [local go_sem] not_any mf_any

theorem Kp.below' {S : Nat → Obj → Prop} {w w1 w2 : World} {B : Nat} (hb : Below B w w1) (h : Kp S w1 w2) (hB : B ≤ w1.heap.size) (hS : ∀ k o, S k o → B ≤ k) : Below B w w2 := hb.trans (h.below hB hS)
theorem Et.kp {S : Nat → Obj → Prop} {W W' : World} (h : Et W) (hk : Kp S W W') (hS : ∀ o, ¬ S 0 o) : Et W' := hk.cell h (fun o _ => hS o)

set_option maxHeartbeats 4000000 in
theorem awake_any (w : World) (he : Et w) : Calls Tryd.prog 7 #[] w fun e w' => e = .returned (.bool true) ∧ Below w.heap.size w w' := by
  have HE := hide1 he
  have hB0 : Below w.heap.size w (w.alloc (wrow [5, 6, 7])) := (Below.refl _ _).alloc (Nat.le_refl _) _
  have HN := hide1 (new_tape (w.alloc (wrow [5, 6, 7])) 3 3 (some ⟨w.heap.size, 0, none⟩) [5, 6, 7] (nl_row (World.alloc_heap_new _ _)) (by decide))
  have HB0 := hide1 hB0
  have hpos := he.pos
  have Hpos := hide1 hpos
  clear he hB0 hpos
  go_enter Tryd.func7, Tryd.ntmps7
  go_wp2_with fail
  refine HN.out.mono ?_
  rintro e W1 ⟨t, b, rfl, hb1, hbt, hT1, hr1, hB1⟩
  have hsz : (w.alloc (wrow [5, 6, 7])).heap.size = w.heap.size + 1 := by simp
  rw [hsz] at hb1 hB1
  have B1 : Below w.heap.size w W1 := HB0.out.trans (hB1.mono (by omega))
  have HK1 := hide1 (take_yes t b 0 2 [5, 6, 7] W1 hT1 hr1 (by decide) (by decide))
  have F1 := hide1 (And.intro hb1 (And.intro hbt (And.intro hT1 (And.intro hr1 B1))))
  clear HN hb1 hbt hT1 hr1 hB1 hsz B1 HB0
  rw [show ((2 : Nat) : Int) = 2 from rfl] at HK1
  go_wp2_with fail
  refine HK1.out.mono ?_
  rintro e W2 ⟨rfl, h1, h2, h3⟩
  obtain ⟨f1, f2, f3, f4, f5⟩ := F1.out
  obtain ⟨ga, hga⟩ : ∃ ga, W1.heap.size = ga := ⟨_, rfl⟩
  have hbl : b < W1.heap.size := lt_of_heap f4
  have htl : t < W1.heap.size := f3.lt
  have r2 : W2.heap[b]? = some (wrow [5, 6, 7]) := h3.same _ _ f4 (by omega)
  have B2 : Below w.heap.size w W2 := Kp.below' f5 h3 (by omega) (fun k o hk => by omega)
  rw [hga] at h1 ⊢
  have HK2 := hide1 (take_far t b 2 3 2 W2 h2 (by decide) (by decide))
  have F2 := hide1 (And.intro f1 (And.intro f2 (And.intro (show t < ga by omega) (And.intro h1 (And.intro h2 (And.intro r2 (And.intro B2 (lt_of_heap h1))))))))
  clear HK1 F1 h1 h2 h3 f1 f2 f3 f4 f5 hga hbl htl r2 B2
  rw [show ((2 : Nat) : Int) = 2 from rfl] at HK2
  go_wp2_with fail
  refine HK2.out.mono ?_
  rintro e W3 ⟨rfl, h1, h2⟩
  obtain ⟨f1, f2, f3, f4, f5, f6, f7, f8⟩ := F2.out
  obtain ⟨ge, hge⟩ : ∃ ge, W2.heap.size = ge := ⟨_, rfl⟩
  have hs2 := f7.size
  have T3 := f5.below h2 f5.lt
  have r3 : W3.heap[b]? = some (wrow [5, 6, 7]) := (h2.block _ (lt_of_heap f6)).trans f6
  have a3 : W3.heap[ga]? = some (wrow [5, 6]) := (h2.block _ f8).trans f4
  have B3 : Below w.heap.size w W3 := f7.trans (h2.mono (by omega))
  rw [hge] at h1 ⊢
  have HK3 := hide1 (next_any t b 2 [5, 6, 7] W3 T3 r3 (by decide))
  have F3 := hide1 (And.intro f1 (And.intro f2 (And.intro f3 (And.intro a3 (And.intro h1 (And.intro B3 (show ge ≠ t ∧ ge ≠ ga by have := f5.lt; omega)))))))
  clear HK2 F2 f1 f2 f3 f4 f5 f6 f7 f8 hge hs2 T3 r3 a3 B3 h1 h2
  go_wp2_with fail
  refine HK3.out.mono ?_
  rintro e W4 ⟨x, v, rfl, hx, hv, h1, h2⟩
  obtain ⟨f1, f2, f3, f4, f5, f6, f7⟩ := F3.out
  have hx7 : x = 7 := hx
  subst hx7
  rcases hv with ⟨_, rfl⟩ | ⟨hv, _⟩
  rotate_left
  · exact absurd hv (by decide)
  have a4 : W4.heap[ga]? = some (wrow [5, 6]) := h2.same _ _ f4 (by omega)
  have e4 : Rt W4 ge 10 := f5.kp h2 (fun o => by omega)
  have B4 : Below w.heap.size w W4 := Kp.below' f6 h2 f6.size (fun k o hk => by omega)
  have A4 := hide1 a4
  have E4 := hide1 e4
  have HB4 := hide1 B4
  clear HK3 F3 f1 f2 f3 f4 f5 f6 f7 h1 h2 a4 e4 B4 hx
  rw [show ((7 : Nat) : Int) = 7 from rfl]
  go_wp2_with fail
  have hb5 : Below W4.heap.size W4 (W4.alloc (wrow [5, 6])) := (Below.refl _ _).alloc (Nat.le_refl _) _
  have HNm := nums_any (W4.alloc (wrow [5, 6])) 2 2 2 (some ⟨ga, 0, none⟩) (some ⟨W4.heap.size, 0, none⟩) [5, 6] ((nl_row A4.out).next hb5) (nl_row (World.alloc_heap_new _ _)) (by decide)
  refine HNm.mono ?_
  rintro e W5 ⟨rfl, q, hq⟩
  have B5 : Below W4.heap.size W4 W5 := by rw [hq]; exact below_drewN hb5 q
  have H5 := hide1 (code_any W5 10 (.iface 93 (.pointer (some ⟨ge, 0, none⟩))) (HE.out.below (HB4.out.trans (B5.mono HB4.out.size)) Hpos.out) (.inr ⟨rfl, ge, rfl, E4.out.below B5 E4.out.lt⟩))
  have HB5 := hide1 (HB4.out.trans (B5.mono HB4.out.size))
  clear hq hb5 HNm B5
  go_wp2_with fail
  refine H5.out.mono ?_
  rintro e W6 ⟨rfl, hB6⟩
  have HB6 := hide1 (HB5.out.trans (hB6.mono HB5.out.size))
  clear hB6
  go_wp2
  go_ret
  exact ⟨rfl, HB6.out⟩

end Go.Proofs.YtdkakodlkbkhnaaDoor
