/- Part, where there is one. -/
import Derived.Test.YtldopgngbnjlnaaVPd
namespace Go.Proofs.Ytldopgngbnjlnaa.V
open Go.RowKit
set_option maxRecDepth 100000
attribute [local go_sem] not_any mf_any field_words

set_option maxHeartbeats 2000000 in
theorem part_any (b : Nat) (w : World) (n : Nat) (a : Option Addr) (l : List Bool) (p t : Nat) (hv : Vc b w n a l) (hn : n ≤ 4194304) (hp : p ≤ t) (ht : t ≤ n) (h0 : 0 < n) :
    Calls Try.prog 33 #[.agg #[.int .i64 n, .slice a (need n 64) (need n 64)], .int .i64 p, .int .i64 t] w fun e w' => ∃ a', e = .returned (.tuple #[.agg #[.int .i64 ((t - p : Nat) : Int), .slice a' (need (t - p) 64) (need (t - p) 64)], .int .i64 0]) ∧ Vc w.heap.size w' (t - p) a' (cutOut l p t) ∧ Below w.heap.size w w' := by
  obtain ⟨g, rfl, hbg, hg, _⟩ := hv.cell (show 0 < need n 64 by rw [need64]; omega)
  have HV := hide1 hv
  have h1 : ¬ (p : Int) < 0 := by omega
  have h2 : ¬ (t : Int) < (p : Int) := by omega
  have h3 : ¬ (n : Int) < (t : Int) := by omega
  have hq : p / 64 ≤ need n 64 := by rw [need64]; omega
  have hk0 : (0 : Int) ≤ (p : Int) / 64 := by omega
  have hk1 : (p : Int) / 64 ≤ (need n 64 : Int) := by omega
  have hk2 : ((p : Int) / 64).toNat = p / 64 := by omega
  have hmm : need n 64 ≤ 65536 := by rw [need64]; omega
  have hkw : IntKind.i64.wrap ((p : Int) / 64) = (p : Int) / 64 := by rw [IntKind.wrap_i64]; omega
  have e : ((t - p : Nat) : Int) = (t : Int) - (p : Int) := by omega
  have elow : ((p % 64 : Nat) : Int) = (p : Int) % 64 := by omega
  have HM : Hid (∀ o3 : Obj, (t - p = 0 ∨ o3 = .cells #[.slice (some ⟨g, p / 64, none⟩) (need n 64 - p / 64) (need n 64 - p / 64)] 31) →
      Calls Try.prog 46 #[.int .i64 ((t : Int) - (p : Int)), .func (.func 47) #[] #[.pointer (some ⟨w.heap.size + 1 + 1, 0, none⟩), .pointer (some ⟨w.heap.size + 1 + 1 + 1, 0, none⟩)]]
        ((((w.alloc (.cells #[.int .i64 n, .slice (some ⟨g, 0, none⟩) (need n 64) (need n 64)] 37)).alloc (.cells #[.int .i64 0, .slice none 0 0] 37)).alloc o3).alloc (.cells #[.int .i64 ((p : Int) % 64)] 3)) fun e w' => ∃ a', e = .returned (.agg #[.int .i64 ((t : Int) - (p : Int)), .slice a' (need (t - p) 64) (need (t - p) 64)]) ∧ Vc (w.heap.size + 4) w' (t - p) a' (cutOut l p t) ∧ w'.heap[w.heap.size + 1]? = some (.cells #[.int .i64 0, .slice none 0 0] 37 (0, 0)) ∧ Below w.heap.size w w') := by
    intro o3 ho
    obtain ⟨_, _, b3, b4, b5⟩ := after4 (Below.refl _ ((((w.alloc (.cells #[.int .i64 n, .slice (some ⟨g, 0, none⟩) (need n 64) (need n 64)] 37)).alloc (.cells #[.int .i64 0, .slice none 0 0] 37)).alloc o3).alloc (.cells #[.int .i64 ((p : Int) % 64)] 3)))
    generalize hX : ((((w.alloc (.cells #[.int .i64 n, .slice (some ⟨g, 0, none⟩) (need n 64) (need n 64)] 37)).alloc (.cells #[.int .i64 0, .slice none 0 0] 37)).alloc o3).alloc (.cells #[.int .i64 ((p : Int) % 64)] 3)) = X at b3 b4 b5 ⊢
    have hm := made_any 47 rfl #[.pointer (some ⟨w.heap.size + 1 + 1, 0, none⟩), .pointer (some ⟨w.heap.size + 1 + 1 + 1, 0, none⟩)] X (t - p) (fun i => partWord l (p / 64) (p % 64) i) (cutOut l p t) (by omega) (cutOut_length (by rw [HV.out.len]; exact ht)) (fun i hi => ⟨partWord_lt _ _ _ _, fun j hj hlt => by
        rw [partWord_bit _ _ _ _ _ (Nat.mod_lt _ (by omega)) hj, cutOut_getD hlt, Nat.div_add_mod]⟩) (fun i W' hi hB' => by
        rcases ho with ho | ho
        · rw [ho] at hi
          simp [need64] at hi
        · subst ho
          have hBB := b5.trans (hB'.mono b5.size)
          have hin : p / 64 + i < need n 64 := by rw [need64] at hi ⊢; omega
          refine part1_any W' (w.heap.size + 1 + 1) (w.heap.size + 1 + 1 + 1) g (p / 64) (need n 64 - p / 64) _ (p % 64) n b l i (by omega) (by omega) (Nat.mod_lt _ (by omega)) hn ((hB'.block _ (lt_heap b3)).trans b3) ?_ (HV.out.below hBB (Nat.le_refl _))
          rw [elow]
          exact (hB'.block _ (lt_heap b4)).trans b4)
    rw [e] at hm
    refine hm.mono ?_
    rintro e w' ⟨a', rfl, hv, hb⟩
    rw [← hX] at hb hv
    obtain ⟨_, x2, _, _, x5⟩ := after4 hb
    exact ⟨a', rfl, hv.mono (by simp), x2, x5⟩
  rw [e]
  clear hv hg e elow
  by_cases hqe : p / 64 < need n 64
  · have hk3 : (p : Int) / 64 < (need n 64 : Int) := by omega
    go_enter Try.func33, Try.ntmps33
    go_wp2_with fail
    refine (HM.out _ (.inr rfl)).mono ?_
    rintro e w1 ⟨a', rfl, hv1, hs, hbw⟩
    obtain ⟨q0, q1, q2, q3, q4⟩ := box2 hs
    have HS := hide1 hs
    have V1 := hide1 hv1
    clear hs hv1
    go_wp2
    refine ret_vec2 Try.results33 (w.heap.size + 1) _ _ _ rfl rfl (set_box2 HS.out) rfl ⟨_, rfl, ?_, ?_⟩
    · exact ((V1.out.setCell (by simp; try omega) _).setCell (by simp; try omega) _).mono (by omega)
    · exact (hbw.setCell (by simp; try omega) _).setCell (by simp; try omega) _
  · have hk3 : (p : Int) / 64 = (need n 64 : Int) := by omega
    have HZ : Hid (t - p = 0) := by
      rw [need64] at hqe
      show t - p = 0
      omega
    go_enter Try.func33, Try.ntmps33
    go_wp2_with fail
    refine (HM.out _ (.inl HZ.out)).mono ?_
    rintro e w1 ⟨a', rfl, hv1, hs, hbw⟩
    obtain ⟨q0, q1, q2, q3, q4⟩ := box2 hs
    have HS := hide1 hs
    have V1 := hide1 hv1
    clear hs hv1
    go_wp2
    refine ret_vec2 Try.results33 (w.heap.size + 1) _ _ _ rfl rfl (set_box2 HS.out) rfl ⟨_, rfl, ?_, ?_⟩
    · exact ((V1.out.setCell (by simp; try omega) _).setCell (by simp; try omega) _).mono (by omega)
    · exact (hbw.setCell (by simp; try omega) _).setCell (by simp; try omega) _

end Go.Proofs.Ytldopgngbnjlnaa.V
