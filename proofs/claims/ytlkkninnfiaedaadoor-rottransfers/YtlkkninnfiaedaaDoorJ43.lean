/- A part of bits: word by word. Part. Part, where there is one. Part of no bits, and of any. -/
import Derived.Test.YtlkkninnfiaedaaDoorJ10
namespace Go.Proofs.YtlkkninnfiaedaaDoor.Pg.V
open Go.RowKit
set_option maxRecDepth 100000
attribute [local go_sem] not_any mf_any field_words

theorem chunk_out {l : List Bool} {k : Nat} (h : need l.length 64 ≤ k) : chunk 64 l k = 0 := by
  apply Nat.eq_of_testBit_eq
  intro j
  rw [chunk_testBit, Nat.zero_testBit, List.getD_eq_getElem?_getD, List.getElem?_eq_none (by rw [need64] at h; omega)]
  simp

/- word i of the bits from a place on -/
def partWord (l : List Bool) (q low i : Nat) : Nat := (chunk 64 l (q + i) / 2 ^ low) ||| (chunk 64 l (q + i + 1) * 2 ^ (64 - low) % 18446744073709551616)

theorem partWord_lt (l : List Bool) (q low i : Nat) : partWord l q low i < 18446744073709551616 :=
  Nat.or_lt_two_pow (n := 64) (Nat.lt_of_le_of_lt (Nat.div_le_self _ _) (chunk64_lt _ _)) (Nat.mod_lt _ (by omega))

theorem partWord_bit (l : List Bool) (q low i j : Nat) (hlow : low < 64) (hj : j < 64) : (partWord l q low i).testBit j = l.getD (64 * q + low + (64 * i + j)) false := by
  unfold partWord
  rw [Nat.testBit_or, Nat.testBit_div_two_pow, show (18446744073709551616 : Nat) = 2 ^ 64 by rfl, Nat.testBit_mod_two_pow, Nat.mul_comm (chunk 64 l (q + i + 1)), Nat.testBit_two_pow_mul, chunk_testBit, chunk_testBit]
  by_cases h : j + low < 64
  · have a1 : ¬ 64 - low ≤ j := by omega
    have a2 : 64 * (q + i) + (j + low) = 64 * q + low + (64 * i + j) := by omega
    simp [h, a1, a2]
  · have a1 : 64 - low ≤ j := by omega
    have a2 : j - (64 - low) < 64 := by omega
    have a3 : 64 * (q + i + 1) + (j - (64 - low)) = 64 * q + low + (64 * i + j) := by omega
    simp [h, a1, a2, a3, hj]

def cutOut (l : List Bool) (p t : Nat) : List Bool := (l.drop p).take (t - p)

theorem cutOut_length {l : List Bool} {p t : Nat} (ht : t ≤ l.length) : (cutOut l p t).length = t - p := by simp [cutOut]; omega
theorem cutOut_getD {l : List Bool} {p t j : Nat} (h : j < t - p) : (cutOut l p t).getD j false = l.getD (p + j) false := by
  unfold cutOut
  rw [List.getD_eq_getElem?_getD, List.getD_eq_getElem?_getD, List.getElem?_take_of_lt h, List.getElem?_drop]

theorem wordAt_any (W : World) (g o m c : Nat) (l : List Bool) (q k : Nat) (hm : q + m = need l.length 64) (_hl : l.length ≤ 4194304) (ho : o = q) (hg : W.heap[g]? = some (wrow (chunks 64 l))) (_hk : k ≤ 4194304) :
    Calls Tryd.prog 109 #[.slice (some ⟨g, o, none⟩) m c, .int .i64 k] W fun e w' => e = .returned (.int .u64 (chunk 64 l (q + k) : Nat)) ∧ ∃ p os, w' = Sort.grow (W.drewN p) os := by
  subst ho
  by_cases h : k < m
  · have hc : W.cell? ⟨g, o + k, none⟩ = some (.int .u64 (chunk 64 l (o + k) : Nat)) := row_cell hg (chunks_get (by omega))
    have h1 : ¬ (m : Int) ≤ (k : Int) := by omega
    clear hg
    go_enter Tryd.func109, Tryd.ntmps109
    go_wp2
    go_ret
    exact ⟨rfl, gr_refl _⟩
  · have h1 : (m : Int) ≤ (k : Int) := by omega
    rw [chunk_out (by omega)]
    go_enter Tryd.func109, Tryd.ntmps109
    go_wp2
    go_ret
    exact ⟨rfl, gr_refl _⟩

end Go.Proofs.YtlkkninnfiaedaaDoor.Pg.V

namespace Go.Proofs.YtlkkninnfiaedaaDoor.Pg.V
open Go.RowKit
set_option maxRecDepth 100000
attribute [local go_sem] not_any mf_any field_words

theorem part_or {x y j k : Nat} (hx : x < 18446744073709551616) : bits .or .u64 ((x : Int) / 2 ^ j) (IntKind.u64.wrap ((y : Int) * 2 ^ k)) = ((x / 2 ^ j ||| y * 2 ^ k % 18446744073709551616 : Nat) : Int) := by
  have h1 : x / 2 ^ j < 18446744073709551616 := Nat.lt_of_le_of_lt (Nat.div_le_self _ _) hx
  have e : IntKind.u64.wrap ((y : Int) * 2 ^ k) = ((y * 2 ^ k % 18446744073709551616 : Nat) : Int) := by
    rw [IntKind.wrap_u64, pow_cast, ← Int.natCast_mul]
    rfl
  rw [e, pow_cast, ← Int.natCast_ediv, u64_or_nat _ _ h1 (Nat.mod_lt _ (by omega))]

set_option maxHeartbeats 1000000 in
theorem part1_any (W : World) (p1 p2 g q m c low n b : Nat) (l : List Bool) (i : Nat) (hi : i < m) (hm : q + m = need n 64) (hlow : low < 64) (hn : n ≤ 4194304)
    (h1 : W.heap[p1]? = some (.cells #[.slice (some ⟨g, q, none⟩) m c] 39 (0, 0))) (h2 : W.heap[p2]? = some (.cells #[.int .i64 (low : Int)] 3 (0, 0))) (hv : Vc b W n (some ⟨g, 0, none⟩) l) :
    Calls Tryd.prog 108 #[.int .i64 i, .pointer (some ⟨p1, 0, none⟩), .pointer (some ⟨p2, 0, none⟩)] W fun e w' => e = .returned (.int .u64 (partWord l q low i : Nat)) ∧ ∃ p os, w' = Sort.grow (W.drewN p) os := by
  have mixed := mixed
  obtain ⟨_, e, _, hg, hc⟩ := hv.cell (show q + i < need n 64 by omega)
  cases e
  have hmm : need n 64 ≤ 65536 := by rw [need64]; omega
  have c1 := cell_grown (lt_heap h1) (a := ⟨p1, 0, none⟩) (v := .slice (some ⟨g, q, none⟩) m c) (by rw [cell_of_row W p1 0 _ _ _ h1]; rfl)
  have c2 := cell_grown (lt_heap h2) (a := ⟨p2, 0, none⟩) (v := .int .i64 (low : Int)) (by rw [cell_of_row W p2 0 _ _ _ h2]; rfl)
  have c4 := cell_grown (lt_heap hg) hc
  have hWt : ∀ (k : Nat) (os : Array Obj), Hid (Calls Tryd.prog 109 #[.slice (some ⟨g, q, none⟩) m c, .int .i64 ((i : Int) + 1)] (Sort.grow (W.drewN k) os) fun e w' => e = .returned (.int .u64 (chunk 64 l (q + i + 1) : Nat)) ∧ ∃ p os', w' = Sort.grow ((Sort.grow (W.drewN k) os).drewN p) os') := fun k os => by
    have h := wordAt_any (Sort.grow (W.drewN k) os) g q m c l q (i + 1) (by rw [hv.len]; exact hm) (by rw [hv.len]; exact hn) rfl (heap_gr hg k os) (by omega)
    have e : (((i + 1 : Nat)) : Int) = (i : Int) + 1 := by omega
    rw [e, ← Nat.add_assoc] at h
    exact h
  have hx := chunk64_lt l (q + i)
  have hy := chunk64_lt l (q + i + 1)
  clear h1 h2 hv hg hc
  go_enter Tryd.func108, Tryd.ntmps108
  go_wp2
  refine wp_region_quiet_grown (by assumption) (by kernel_rfl) ?_
  repeat (go_big_quiet_step (exact Calls.grown_of (hWt _ _).out))
  refine wpQuiet_nil ?_
  intro w1 hw1
  obtain ⟨⟨nq, osq⟩, rfl⟩ := hw1
  go_wp2
  go_ret
  refine ⟨?_, nq, osq, rfl⟩
  show Ending.returned (.int .u64 (bits .or .u64 ((chunk 64 l (q + i) : Nat) / 2 ^ low) (IntKind.u64.wrap ((chunk 64 l (q + i + 1) : Nat) * 2 ^ (64 - low))))) = _
  rw [part_or hx]
  rfl

end Go.Proofs.YtlkkninnfiaedaaDoor.Pg.V

namespace Go.Proofs.YtlkkninnfiaedaaDoor.Pg.V
open Go.RowKit
set_option maxRecDepth 100000
attribute [local go_sem] not_any mf_any field_words

set_option maxHeartbeats 2000000 in
theorem part_any (b : Nat) (w : World) (n : Nat) (a : Option Addr) (l : List Bool) (p t : Nat) (hv : Vc b w n a l) (hn : n ≤ 4194304) (hp : p ≤ t) (ht : t ≤ n) (h0 : 0 < n) :
    Calls Tryd.prog 88 #[.agg #[.int .i64 n, .slice a (need n 64) (need n 64)], .int .i64 p, .int .i64 t] w fun e w' => ∃ a', e = .returned (.tuple #[.agg #[.int .i64 ((t - p : Nat) : Int), .slice a' (need (t - p) 64) (need (t - p) 64)], .int .i64 0]) ∧ Vc w.heap.size w' (t - p) a' (cutOut l p t) ∧ Below w.heap.size w w' := by
  obtain ⟨g, rfl, hbg, hg, _⟩ := hv.cell (show 0 < need n 64 by rw [need64]; omega)
  have HV := hide1 hv
  have h1 : ¬ (p : Int) < 0 := by omega
  have h2 : ¬ (t : Int) < (p : Int) := by omega
  have h3 : ¬ (n : Int) < (t : Int) := by omega
  have hq : p / 64 ≤ need n 64 := by rw [need64]; omega
  have hk0 : (0 : Int) ≤ (p : Int) / 64 := by omega
  have hk1 : (p : Int) / 64 ≤ (need n 64 : Int) := by omega
  have hk2 : ((p : Int) / 64).toNat = p / 64 := by omega
  have hmm : need n 64 ≤ 65536 := by rw [need64]; omega
  have hkw : IntKind.i64.wrap ((p : Int) / 64) = (p : Int) / 64 := by rw [IntKind.wrap_i64]; omega
  have e : ((t - p : Nat) : Int) = (t : Int) - (p : Int) := by omega
  have elow : ((p % 64 : Nat) : Int) = (p : Int) % 64 := by omega
  have HM : Hid (∀ o3 : Obj, (t - p = 0 ∨ o3 = .cells #[.slice (some ⟨g, p / 64, none⟩) (need n 64 - p / 64) (need n 64 - p / 64)] 39) →
      Calls Tryd.prog 107 #[.int .i64 ((t : Int) - (p : Int)), .func (.func 108) #[] #[.pointer (some ⟨w.heap.size + 1 + 1, 0, none⟩), .pointer (some ⟨w.heap.size + 1 + 1 + 1, 0, none⟩)]]
        ((((w.alloc (.cells #[.int .i64 n, .slice (some ⟨g, 0, none⟩) (need n 64) (need n 64)] 41)).alloc (.cells #[.int .i64 0, .slice none 0 0] 41)).alloc o3).alloc (.cells #[.int .i64 ((p : Int) % 64)] 3)) fun e w' => ∃ a', e = .returned (.agg #[.int .i64 ((t : Int) - (p : Int)), .slice a' (need (t - p) 64) (need (t - p) 64)]) ∧ Vc (w.heap.size + 4) w' (t - p) a' (cutOut l p t) ∧ w'.heap[w.heap.size + 1]? = some (.cells #[.int .i64 0, .slice none 0 0] 41 (0, 0)) ∧ Below w.heap.size w w') := by
    intro o3 ho
    obtain ⟨_, _, b3, b4, b5⟩ := after4 (Below.refl _ ((((w.alloc (.cells #[.int .i64 n, .slice (some ⟨g, 0, none⟩) (need n 64) (need n 64)] 41)).alloc (.cells #[.int .i64 0, .slice none 0 0] 41)).alloc o3).alloc (.cells #[.int .i64 ((p : Int) % 64)] 3)))
    generalize hX : ((((w.alloc (.cells #[.int .i64 n, .slice (some ⟨g, 0, none⟩) (need n 64) (need n 64)] 41)).alloc (.cells #[.int .i64 0, .slice none 0 0] 41)).alloc o3).alloc (.cells #[.int .i64 ((p : Int) % 64)] 3)) = X at b3 b4 b5 ⊢
    have hm := made_any 108 rfl #[.pointer (some ⟨w.heap.size + 1 + 1, 0, none⟩), .pointer (some ⟨w.heap.size + 1 + 1 + 1, 0, none⟩)] X (t - p) (fun i => partWord l (p / 64) (p % 64) i) (cutOut l p t) (by omega) (cutOut_length (by rw [HV.out.len]; exact ht)) (fun i hi => ⟨partWord_lt _ _ _ _, fun j hj hlt => by
        rw [partWord_bit _ _ _ _ _ (Nat.mod_lt _ (by omega)) hj, cutOut_getD hlt, Nat.div_add_mod]⟩) (fun i W' hi hB' => by
        rcases ho with ho | ho
        · rw [ho] at hi
          simp [need64] at hi
        · subst ho
          have hBB := b5.trans (hB'.mono b5.size)
          have hin : p / 64 + i < need n 64 := by rw [need64] at hi ⊢; omega
          refine part1_any W' (w.heap.size + 1 + 1) (w.heap.size + 1 + 1 + 1) g (p / 64) (need n 64 - p / 64) _ (p % 64) n b l i (by omega) (by omega) (Nat.mod_lt _ (by omega)) hn ((hB'.block _ (lt_heap b3)).trans b3) ?_ (HV.out.below hBB (Nat.le_refl _))
          rw [elow]
          exact (hB'.block _ (lt_heap b4)).trans b4)
    rw [e] at hm
    refine hm.mono ?_
    rintro e w' ⟨a', rfl, hv, hb⟩
    rw [← hX] at hb hv
    obtain ⟨_, x2, _, _, x5⟩ := after4 hb
    exact ⟨a', rfl, hv.mono (by simp), x2, x5⟩
  rw [e]
  clear hv hg e elow
  by_cases hqe : p / 64 < need n 64
  · have hk3 : (p : Int) / 64 < (need n 64 : Int) := by omega
    go_enter Tryd.func88, Tryd.ntmps88
    go_wp2_with fail
    refine (HM.out _ (.inr rfl)).mono ?_
    rintro e w1 ⟨a', rfl, hv1, hs, hbw⟩
    obtain ⟨q0, q1, q2, q3, q4⟩ := box2 hs
    have HS := hide1 hs
    have V1 := hide1 hv1
    clear hs hv1
    go_wp2
    refine ret_vec2 Tryd.results88 (w.heap.size + 1) _ _ _ rfl rfl (set_box2 HS.out) rfl ⟨_, rfl, ?_, ?_⟩
    · exact ((V1.out.setCell (by simp; try omega) _).setCell (by simp; try omega) _).mono (by omega)
    · exact (hbw.setCell (by simp; try omega) _).setCell (by simp; try omega) _
  · have hk3 : (p : Int) / 64 = (need n 64 : Int) := by omega
    have HZ : Hid (t - p = 0) := by
      rw [need64] at hqe
      show t - p = 0
      omega
    go_enter Tryd.func88, Tryd.ntmps88
    go_wp2_with fail
    refine (HM.out _ (.inl HZ.out)).mono ?_
    rintro e w1 ⟨a', rfl, hv1, hs, hbw⟩
    obtain ⟨q0, q1, q2, q3, q4⟩ := box2 hs
    have HS := hide1 hs
    have V1 := hide1 hv1
    clear hs hv1
    go_wp2
    refine ret_vec2 Tryd.results88 (w.heap.size + 1) _ _ _ rfl rfl (set_box2 HS.out) rfl ⟨_, rfl, ?_, ?_⟩
    · exact ((V1.out.setCell (by simp; try omega) _).setCell (by simp; try omega) _).mono (by omega)
    · exact (hbw.setCell (by simp; try omega) _).setCell (by simp; try omega) _

end Go.Proofs.YtlkkninnfiaedaaDoor.Pg.V

namespace Go.Proofs.YtlkkninnfiaedaaDoor.Pg.V
open Go.RowKit
set_option maxRecDepth 100000
attribute [local go_sem] not_any mf_any field_words

set_option maxHeartbeats 2000000 in
theorem part_none (w : World) (a : Option Addr) :
    Calls Tryd.prog 88 #[.agg #[.int .i64 0, .slice a 0 0], .int .i64 0, .int .i64 0] w fun e w' => ∃ a', e = .returned (.tuple #[.agg #[.int .i64 0, .slice a' 0 0], .int .i64 0]) ∧ Vc w.heap.size w' 0 a' [] ∧ Below w.heap.size w w' := by
  have HM : Hid (∀ o3 o4 : Obj, ∀ cap, Calls Tryd.prog 107 #[.int .i64 0, .func (.func 108) #[] cap]
        ((((w.alloc (.cells #[.int .i64 0, .slice a 0 0] 41)).alloc (.cells #[.int .i64 0, .slice none 0 0] 41)).alloc o3).alloc o4) fun e w' => ∃ a', e = .returned (.agg #[.int .i64 0, .slice a' 0 0]) ∧ Vc (w.heap.size + 4) w' 0 a' [] ∧ w'.heap[w.heap.size + 1]? = some (.cells #[.int .i64 0, .slice none 0 0] 41 (0, 0)) ∧ Below w.heap.size w w') := by
    intro o3 o4 cap
    have hm := made_any 108 rfl cap ((((w.alloc (.cells #[.int .i64 0, .slice a 0 0] 41)).alloc (.cells #[.int .i64 0, .slice none 0 0] 41)).alloc o3).alloc o4) 0 (fun _ => 0) [] (by omega) rfl (fun i hi => absurd hi (by simp [need64])) (fun i W' hi => absurd hi (by simp [need64]))
    refine hm.mono ?_
    rintro e w' ⟨a', rfl, hv, hb⟩
    obtain ⟨_, x2, _, _, x5⟩ := after4 hb
    exact ⟨a', rfl, hv.mono (by simp), x2, x5⟩
  cases a
  all_goals
    go_enter Tryd.func88, Tryd.ntmps88
    go_wp2_with fail
    refine (HM.out _ _ _).mono ?_
    rintro e w1 ⟨a', rfl, hv1, hs, hbw⟩
    obtain ⟨q0, q1, q2, q3, q4⟩ := box2 hs
    have HS := hide1 hs
    have V1 := hide1 hv1
    clear hs hv1
    go_wp2
    refine ret_vec2 Tryd.results88 (w.heap.size + 1) _ _ _ rfl rfl (set_box2 HS.out) rfl ⟨_, rfl, ?_, ?_⟩
    · exact ((V1.out.setCell (by simp; try omega) _).setCell (by simp; try omega) _).mono (by omega)
    · exact (hbw.setCell (by simp; try omega) _).setCell (by simp; try omega) _

theorem part_all (b : Nat) (w : World) (n : Nat) (a : Option Addr) (l : List Bool) (p t : Nat) (hv : Vc b w n a l) (hn : n ≤ 4194304) (hp : p ≤ t) (ht : t ≤ n) :
    Calls Tryd.prog 88 #[.agg #[.int .i64 n, .slice a (need n 64) (need n 64)], .int .i64 p, .int .i64 t] w fun e w' => ∃ a', e = .returned (.tuple #[.agg #[.int .i64 ((t - p : Nat) : Int), .slice a' (need (t - p) 64) (need (t - p) 64)], .int .i64 0]) ∧ Vc w.heap.size w' (t - p) a' (cutOut l p t) ∧ Below w.heap.size w w' := by
  by_cases h0 : 0 < n
  · exact part_any b w n a l p t hv hn hp ht h0
  · obtain rfl : n = 0 := by omega
    obtain rfl : t = 0 := by omega
    obtain rfl : p = 0 := by omega
    exact part_none w a |>.mono fun e w' ⟨a', he, hv', hb⟩ => ⟨a', he, by
      have : cutOut l 0 0 = [] := by simp [cutOut]
      rw [this]
      exact hv', hb⟩

end Go.Proofs.YtlkkninnfiaedaaDoor.Pg.V
