/- Part of no bits, and of any. -/
import Derived.Test.YtldopgngbnjlnaaVPe
namespace Go.Proofs.Ytldopgngbnjlnaa.V
open Go.RowKit
set_option maxRecDepth 100000
attribute [local go_sem] not_any mf_any field_words

set_option maxHeartbeats 2000000 in
theorem part_none (w : World) (a : Option Addr) :
    Calls Try.prog 33 #[.agg #[.int .i64 0, .slice a 0 0], .int .i64 0, .int .i64 0] w fun e w' => ∃ a', e = .returned (.tuple #[.agg #[.int .i64 0, .slice a' 0 0], .int .i64 0]) ∧ Vc w.heap.size w' 0 a' [] ∧ Below w.heap.size w w' := by
  have HM : Hid (∀ o3 o4 : Obj, ∀ cap, Calls Try.prog 46 #[.int .i64 0, .func (.func 47) #[] cap]
        ((((w.alloc (.cells #[.int .i64 0, .slice a 0 0] 37)).alloc (.cells #[.int .i64 0, .slice none 0 0] 37)).alloc o3).alloc o4) fun e w' => ∃ a', e = .returned (.agg #[.int .i64 0, .slice a' 0 0]) ∧ Vc (w.heap.size + 4) w' 0 a' [] ∧ w'.heap[w.heap.size + 1]? = some (.cells #[.int .i64 0, .slice none 0 0] 37 (0, 0)) ∧ Below w.heap.size w w') := by
    intro o3 o4 cap
    have hm := made_any 47 rfl cap ((((w.alloc (.cells #[.int .i64 0, .slice a 0 0] 37)).alloc (.cells #[.int .i64 0, .slice none 0 0] 37)).alloc o3).alloc o4) 0 (fun _ => 0) [] (by omega) rfl (fun i hi => absurd hi (by simp [need64])) (fun i W' hi => absurd hi (by simp [need64]))
    refine hm.mono ?_
    rintro e w' ⟨a', rfl, hv, hb⟩
    obtain ⟨_, x2, _, _, x5⟩ := after4 hb
    exact ⟨a', rfl, hv.mono (by simp), x2, x5⟩
  cases a
  all_goals
    go_enter Try.func33, Try.ntmps33
    go_wp2_with fail
    refine (HM.out _ _ _).mono ?_
    rintro e w1 ⟨a', rfl, hv1, hs, hbw⟩
    obtain ⟨q0, q1, q2, q3, q4⟩ := box2 hs
    have HS := hide1 hs
    have V1 := hide1 hv1
    clear hs hv1
    go_wp2
    refine ret_vec2 Try.results33 (w.heap.size + 1) _ _ _ rfl rfl (set_box2 HS.out) rfl ⟨_, rfl, ?_, ?_⟩
    · exact ((V1.out.setCell (by simp; try omega) _).setCell (by simp; try omega) _).mono (by omega)
    · exact (hbw.setCell (by simp; try omega) _).setCell (by simp; try omega) _

theorem part_all (b : Nat) (w : World) (n : Nat) (a : Option Addr) (l : List Bool) (p t : Nat) (hv : Vc b w n a l) (hn : n ≤ 4194304) (hp : p ≤ t) (ht : t ≤ n) :
    Calls Try.prog 33 #[.agg #[.int .i64 n, .slice a (need n 64) (need n 64)], .int .i64 p, .int .i64 t] w fun e w' => ∃ a', e = .returned (.tuple #[.agg #[.int .i64 ((t - p : Nat) : Int), .slice a' (need (t - p) 64) (need (t - p) 64)], .int .i64 0]) ∧ Vc w.heap.size w' (t - p) a' (cutOut l p t) ∧ Below w.heap.size w w' := by
  by_cases h0 : 0 < n
  · exact part_any b w n a l p t hv hn hp ht h0
  · obtain rfl : n = 0 := by omega
    obtain rfl : t = 0 := by omega
    obtain rfl : p = 0 := by omega
    exact part_none w a |>.mono fun e w' ⟨a', he, hv', hb⟩ => ⟨a', he, by
      have : cutOut l 0 0 = [] := by simp [cutOut]
      rw [this]
      exact hv', hb⟩

end Go.Proofs.Ytldopgngbnjlnaa.V
