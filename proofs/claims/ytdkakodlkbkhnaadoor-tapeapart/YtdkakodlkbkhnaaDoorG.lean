/- New, Take, Next. -/
import Derived.Test.YtdkakodlkbkhnaaDoorE
namespace Go.Proofs.YtdkakodlkbkhnaaDoor
open Go.RowKit
set_option maxRecDepth 100000
attribute [local go_sem] not_any mf_any

theorem below_drewN {B : Nat} {w w' : World} (h : Below B w w') (q : Nat) : Below B w (w'.drewN q) := ⟨h.1, h.2, h.3, h.4, h.5⟩

def NewPost (w : World) (ws : List Nat) (e : Ending) (w' : World) : Prop :=
  ∃ t b, e = .returned (.tuple #[.pointer (some ⟨t, 0, none⟩), .nilIface]) ∧ w.heap.size ≤ b ∧ b < t ∧ Tp w' t b 0 ws.length ∧ w'.heap[b]? = some (wrow ws) ∧ Below w.heap.size w w'

theorem splice_all {xs ys : List Value} (h : xs.length = ys.length) : splice xs 0 ys = ys := by
  simp [splice, ← h]

set_option maxHeartbeats 2000000 in
theorem new_tape (w : World) (L c : Nat) (a : Option Addr) (ws : List Nat) (ha : Nl w L a ws) (hL : L ≤ 1048576) :
    Calls Tryd.prog 8 #[.slice a L c] w (NewPost w ws) := by
  have hlen := ha.len
  have HA := hide1 ha
  have hmk := make_words L (by omega)
  have hLi : (L : Int) ≤ 1048576 := by omega
  have HS : Shy (splice (u64s (zeros L)) 0 (u64s ws) = u64s ws) := ⟨splice_all (by simp [u64s_length, zeros, hlen])⟩
  have HZ : Shy ((u64s ws).length = Nat.min L L) := ⟨by rw [u64s_length, hlen]; exact (Nat.min_self _).symm⟩
  have HF : Shy (0 + (u64s ws).length ≤ (u64s (zeros L)).length) := ⟨by simp [u64s_length, zeros, hlen]⟩
  have HN : Shy (ws.length = L) := ⟨hlen⟩
  have HP : Hid (0 < (u64s ws).length → some (⟨w.heap.size, 0, none⟩ : Addr) = some ⟨w.heap.size, 0, none⟩ ∧ ∃ ad, a = some ad ∧ ∀ j v, (u64s ws)[j]? = some v → (w.alloc (wrow (zeros L))).cell? (ad.add j) = some v) := by
    intro hpos
    refine ⟨rfl, ?_⟩
    obtain ⟨x, hx⟩ : ∃ x, ws[0]? = some x := ⟨_, List.getElem?_eq_getElem (by rw [u64s_length] at hpos; exact hpos)⟩
    obtain ⟨g, o, rfl, _⟩ := HA.out.at' 0 x hx
    refine ⟨_, rfl, fun j v hj => ?_⟩
    rw [u64s, List.getElem?_map] at hj
    cases hy : ws[j]? with
    | none => simp [hy] at hj
    | some y =>
      simp [hy] at hj
      subst hj
      obtain ⟨g', o', h1, h2⟩ := HA.out.at' j y hy
      cases h1
      rw [Addr.add_lit, World.cell?_alloc_lt _ _ _ (ltc h2)]
      exact h2
  have hG : Hid ((w.alloc (wrow (zeros L))).heap[w.heap.size]? = some (.cells (u64s (zeros L)).toArray 44 (0, 0))) := World.alloc_heap_new w _
  have hB : Hid (Below w.heap.size w (w.alloc (wrow (zeros L)))) := (Below.refl _ _).alloc (Nat.le_refl _) _
  clear ha hlen HA
  go_enter Tryd.func8, Tryd.ntmps8
  go_wp2_with (first
    | (refine wpList_copy_splice rfl (.tmp 12) (.tmp 13) 22 22 rfl 44 Tryd.underlying22 size44 (some ⟨w.heap.size, 0, none⟩) a L L L c rfl rfl w.heap.size 0 (u64s (zeros L)) 44 hG.out (u64s ws) HZ.out HP.out HF.out (u64s_one _) w.heap.size w hB.out (Nat.le_refl _) ?_; intro w1 hr1 hb1; have HB1 := hide1 hb1; clear hb1))
  go_ret2
  refine ⟨w1.heap.size, w.heap.size, rfl, Nat.le_refl _, ?_, ⟨?_, Nat.zero_le _⟩, ?_, HB1.out.alloc HB1.out.size _⟩
  · exact lt_of_heap hr1.out
  · rw [HN.out]; exact World.alloc_heap_new w1 _
  · refine (Below.heap_alloc _ _ _ (lt_of_heap hr1.out)).trans (hr1.out.trans ?_)
    rw [HS.out]
    rfl

theorem run_cutl (b L k : Nat) (h : k ≤ L) : ∃ ad : Addr, (∀ w, (Instr.slice 22 (.slice (some ⟨b, 0, none⟩) L L) (some (.int .i64 (k : Int))) none none).run Tryd.prog w = .ok (.slice (some ad) (L - k) (L - k)) w) ∧ (k < L → ad = ⟨b, k, none⟩) := by
  refine ⟨if L = k then ⟨b, 0, none⟩ else ⟨b, k, none⟩, fun w => ?_, fun h' => if_neg (by omega)⟩
  have a1 : (k : Int) ≤ (L : Int) := by omega
  simp [Instr.slice, run_underlying Tryd.underlying22, Instr.sliceBounds, run_sliceBound, a1, Addr.add_lit]
  split <;> rfl

def TakeYes (w : World) (t b k n : Nat) (ws : List Nat) (e : Ending) (w' : World) : Prop :=
  e = .returned (.tuple #[.slice (some ⟨w.heap.size, 0, none⟩) n n, .nilIface]) ∧ w'.heap[w.heap.size]? = some (wrow ((ws.drop k).take n)) ∧ Tp w' t b (k + n) ws.length ∧ Kp (fun j _ => j = t) w w'

def TakeNo (w : World) (c : Int) (e : Ending) (w' : World) : Prop :=
  e = .returned (.tuple #[.slice none 0 0, .iface 93 (.pointer (some ⟨w.heap.size, 0, none⟩))]) ∧ Rt w' w.heap.size c ∧ Below w.heap.size w w'

theorem len_part {ws : List Nat} {k n : Nat} (h : k + n ≤ ws.length) : ((ws.drop k).take n).length = n := by simp; omega

set_option maxHeartbeats 4000000 in
theorem take_yes (t b k n : Nat) (ws : List Nat) (w : World) (ht : Tp w t b k ws.length) (hr : w.heap[b]? = some (wrow ws)) (hL : ws.length ≤ 1048576) (hn : k + n ≤ ws.length) :
    Calls Tryd.prog 10 #[.pointer (some ⟨t, 0, none⟩), .int .i64 (n : Int)] w (TakeYes w t b k n ws) := by
  have HI := hide1 (isNone_no t b k ws.length w ht)
  have HL := hide1 (left_any t b k ws.length w ht hL)
  have HT := hide1 ht
  have HR := hide1 hr
  have HN := hide1 hn
  have hmk := make_words n (by omega)
  obtain ⟨L, hLd⟩ : ∃ L, L = ws.length := ⟨_, rfl⟩
  obtain ⟨ad, hcut, hadv⟩ := run_cutl b L k (by omega)
  rw [← hLd] at HL
  obtain ⟨r, hrd⟩ : ∃ r, r = L - k := ⟨_, rfl⟩
  rw [← hrd] at HL hcut
  have hn1 : decide ((n : Int) < 0) = false := by simp
  have hn2 : decide (r < n) = false := by simp; omega
  have HLd : Shy (L = ws.length) := ⟨hLd⟩
  have Hrd : Shy (r = L - k) := ⟨hrd⟩
  have Hadv := hide1 hadv
  have HLM := hide1 hL
  clear ht hr hL hn hadv hLd hrd
  go_enter Tryd.func10, Tryd.ntmps10
  go_wp2_with fail
  refine HI.out.mono ?_
  rintro e w0 ⟨rfl, hw0⟩
  cases hw0
  go_wp2_with fail
  refine HL.out.mono ?_
  rintro e w1 ⟨rfl, q, hw1⟩
  cases hw1
  clear HI HL
  have HS : Shy (splice (u64s (zeros n)) 0 (u64s ((ws.drop k).take n)) = u64s ((ws.drop k).take n)) := ⟨splice_all (by rw [u64s_length, u64s_length, len_part HN.out]; simp [zeros])⟩
  have HZ : Shy ((u64s ((ws.drop k).take n)).length = Nat.min r n) := ⟨by rw [u64s_length, len_part HN.out, Hrd.out, HLd.out]; have := HN.out; show n = min _ _; omega⟩
  have HF : Shy (0 + (u64s ((ws.drop k).take n)).length ≤ (u64s (zeros n)).length) := ⟨by rw [u64s_length, len_part HN.out]; simp [u64s_length, zeros]⟩
  have HLE : Shy (((ws.drop k).take n).length = n) := ⟨len_part HN.out⟩
  go_upto_region 8 with (fail)
  generalize hW : World.alloc (World.drewN w q) _ = W
  have w1 : W.heap[w.heap.size]? = some (.cells (u64s (zeros n)).toArray 44 (0, 0)) := by rw [← hW]; exact World.alloc_heap_new (w.drewN q) _
  have wb : Below w.heap.size w W := by rw [← hW]; exact (below_drewN (Below.refl _ _) q).alloc (Nat.le_refl _) _
  have htl := HT.out.lt
  have hbl := lt_of_heap HR.out
  have tW := HT.out.below wb htl
  have rW : W.heap[b]? = some (wrow ws) := (wb.block _ hbl).trans HR.out
  rw [← HLd.out] at tW
  have c1 := tW.c1
  have c2 := tW.c2
  have HP : Hid (0 < (u64s ((ws.drop k).take n)).length → some (⟨w.heap.size, 0, none⟩ : Addr) = some ⟨w.heap.size, 0, none⟩ ∧ ∃ ad', some ad = some ad' ∧ ∀ j v, (u64s ((ws.drop k).take n))[j]? = some v → W.drew.cell? (ad'.add j) = some v) := by
    intro hpos
    rw [u64s_length, HLE.out] at hpos
    have h1 := HN.out
    refine ⟨rfl, _, rfl, fun j v hj => ?_⟩
    rw [Hadv.out (by rw [HLd.out]; omega), Addr.add_lit]
    rw [u64s, List.getElem?_map] at hj
    cases hy : ((ws.drop k).take n)[j]? with
    | none => simp [hy] at hj
    | some y =>
      simp [hy] at hj
      subst hj
      have hj2 : j < n := by
        have := (List.getElem?_eq_some_iff.1 hy).1
        rw [HLE.out] at this
        exact this
      rw [List.getElem?_take_of_lt hj2, List.getElem?_drop] at hy
      exact row_cell rW hy
  have W1 := hide1 w1
  have WB := hide1 (wb.drew)
  have TW := hide1 tW
  have hsum : IntKind.i64.wrap ((k : Int) + (n : Int)) = ((k + n : Nat) : Int) := by rw [IntKind.wrap_i64]; have := HN.out; have := HLM.out; omega
  clear hW w1 wb tW rW htl hbl hmk
  go_region_law (refine step_copy_splice rfl (.tmp 23) (.tmp 32) 22 22 rfl 44 Tryd.underlying22 size44 (some ⟨w.heap.size, 0, none⟩) (some ad) n n r r rfl rfl w.heap.size 0 (u64s (zeros n)) 44 W1.out (u64s ((ws.drop k).take n)) HZ.out HP.out HF.out (u64s_one _) w.heap.size w WB.out (Nat.le_refl _) ?_; intro w4 hr4 hb4; have B4 := hide1 hb4; have T4 := hide1 (TW.out.to (w' := w4) ((B4.out.block t HT.out.lt).trans (WB.out.block t HT.out.lt).symm)); have d2 := T4.out.c2; have f2 := T4.out.free 2; clear hb4)
  all_goals
    go_wp2
    go_ret2
    refine ⟨rfl, ?_, ?_, ?_⟩
    · rw [Below.heap_setCell _ _ _ _ (by show w.heap.size ≠ t; have := HT.out.lt; omega)]
      rw [hr4.out, HS.out]
      rfl
    · rw [← HLd.out]
      exact T4.out.set (by rw [HLd.out]; exact HN.out)
    · exact (Kp.ofBelow B4.out).setCell _ (fun _ _ => rfl) _

set_option maxHeartbeats 1000000 in
theorem take_neg (t b k L : Nat) (n : Int) (w : World) (ht : Tp w t b k L) (hn : n < 0) :
    Calls Tryd.prog 10 #[.pointer (some ⟨t, 0, none⟩), .int .i64 n] w (TakeNo w 1) := by
  have HI := hide1 (isNone_no t b k L w ht)
  have HW := hide1 (wrong_any 1 w rfl)
  clear ht
  go_enter Tryd.func10, Tryd.ntmps10
  go_wp2_with fail
  refine HI.out.mono ?_
  rintro e w0 ⟨rfl, hw0⟩
  cases hw0
  go_wp2_with fail
  refine HW.out.mono ?_
  rintro e w1 ⟨v, rfl, rfl, h1, h2⟩
  have H := hide1 (And.intro h1 h2)
  clear h1 h2
  go_wp2
  go_ret2
  exact ⟨rfl, H.out.1, H.out.2⟩

set_option maxHeartbeats 1000000 in
theorem take_far (t b k L : Nat) (n : Nat) (w : World) (ht : Tp w t b k L) (hL : L ≤ 1048576) (hn : L < k + n) :
    Calls Tryd.prog 10 #[.pointer (some ⟨t, 0, none⟩), .int .i64 (n : Int)] w (TakeNo w 10) := by
  have HI := hide1 (isNone_no t b k L w ht)
  have HL := hide1 (left_any t b k L w ht hL)
  obtain ⟨r, hrd⟩ : ∃ r, r = L - k := ⟨_, rfl⟩
  rw [← hrd] at HL
  have hn1 : decide ((n : Int) < 0) = false := by simp
  have hn2 : decide (r < n) = true := by have := ht.le; simp; omega
  clear ht hrd hn hL
  go_enter Tryd.func10, Tryd.ntmps10
  go_wp2_with fail
  refine HI.out.mono ?_
  rintro e w0 ⟨rfl, hw0⟩
  cases hw0
  go_wp2_with fail
  refine HL.out.mono ?_
  rintro e w1 ⟨rfl, q, hw1⟩
  cases hw1
  have HW := hide1 (wrong_any 10 (w.drewN q) rfl)
  clear HI HL
  go_wp2_with fail
  refine HW.out.mono ?_
  rintro e w1 ⟨v, rfl, hv, h1, h2⟩
  have hv' : v = .iface 93 (.pointer (some ⟨w.heap.size, 0, none⟩)) := hv
  subst hv'
  have H := hide1 (And.intro h1 h2)
  clear h1 h2 hv
  go_wp2
  go_ret2
  exact ⟨rfl, H.out.1, (below_drewN (Below.refl _ _) q).trans H.out.2⟩

set_option maxHeartbeats 1000000 in
theorem take_none (x : Value) (n : Int) (w : World) (h : No w x) :
    Calls Tryd.prog 10 #[x, .int .i64 n] w (TakeNo w 3) := by
  have HI := hide1 (isNone_yes x w h)
  have HW := hide1 (wrong_any 3 w rfl)
  clear h
  go_enter Tryd.func10, Tryd.ntmps10
  go_wp2_with fail
  refine HI.out.mono ?_
  rintro e w0 ⟨rfl, hw0⟩
  cases hw0
  go_wp2_with fail
  refine HW.out.mono ?_
  rintro e w1 ⟨v, rfl, rfl, h1, h2⟩
  have H := hide1 (And.intro h1 h2)
  clear h1 h2
  go_wp2
  go_ret2
  exact ⟨rfl, H.out.1, H.out.2⟩

/- what Take answers -/
def takeC (n : Int) (k L : Nat) : Int := if n < 0 then 1 else if (L : Int) < k + n then 10 else 0
def takeK (n : Int) (k L : Nat) : Nat := if n < 0 then k else if (L : Int) < k + n then k else k + n.toNat
def takeL (n : Int) (k : Nat) (ws : List Nat) : List Nat := if n < 0 then [] else if (ws.length : Int) < k + n then [] else (ws.drop k).take n.toNat

end Go.Proofs.YtdkakodlkbkhnaaDoor
