/- Xor, And, Equal. Lists held against each other. The document's own answers: words and bytes of truths, and how many are true. -/
import Derived.Test.YtlkkninnfiaedaaDoorJ36
import Derived.Test.YtlkkninnfiaedaaDoorJ35
import Derived.Deep.DeepMust
namespace Go.Proofs.YtlkkninnfiaedaaDoor.T
open Go.RowKit
set_option maxRecDepth 100000
attribute [local go_sem] not_any mf_any field_words

theorem after4 {w w1 : World} {o1 o2 o3 o4 : Obj} (hb : Below ((((w.alloc o1).alloc o2).alloc o3).alloc o4).heap.size ((((w.alloc o1).alloc o2).alloc o3).alloc o4) w1) :
    w1.heap[w.heap.size]? = some o1 ∧ w1.heap[w.heap.size + 1]? = some o2 ∧ w1.heap[w.heap.size + 2]? = some o3 ∧ w1.heap[w.heap.size + 3]? = some o4 ∧ Below w.heap.size w w1 := by
  have h := after3 (w := w.alloc o1) hb
  have e : (w.alloc o1).heap.size = w.heap.size + 1 := by simp
  rw [e] at h
  obtain ⟨h1, h2, h3, h4⟩ := h
  exact ⟨(h4.block _ (by omega)).trans (heap_alloc_new _ _), h1, h2, h3, ((Below.refl _ _).alloc (Nat.le_refl _) _).trans (h4.mono (by omega))⟩

theorem paired_no (V : FuncId) (w : World) (n m : Nat) (a b : Option Addr) (hnm : n ≠ m) :
    Calls Tryd.prog 89 #[.agg #[.int .i64 n, .slice a (need n 64) (need n 64)], .agg #[.int .i64 m, .slice b (need m 64) (need m 64)], .func (.func V) #[] #[]] w fun e w' => e = .returned (.tuple #[.agg #[.int .i64 0, .slice none 0 0], .int .i64 11]) ∧ Below w.heap.size w w' := by
  have h : ((n : Int) == (m : Int)) = false := by simp; omega
  have h' : ((n : Int) != (m : Int)) = true := by simp; omega
  go_enter Tryd.func89, Tryd.ntmps89
  go_wp2
  have hB : Below ((((w.alloc (.cells #[.int .i64 n, .slice a (need n 64) (need n 64)] 41)).alloc (.cells #[.int .i64 m, .slice b (need m 64) (need m 64)] 41)).alloc (.cells #[.func (.func V) #[] #[]] 153)).alloc (.cells #[.int .i64 0, .slice none 0 0] 41)).heap.size _ _ := Below.refl _ ((((w.alloc (.cells #[.int .i64 n, .slice a (need n 64) (need n 64)] 41)).alloc (.cells #[.int .i64 m, .slice b (need m 64) (need m 64)] 41)).alloc (.cells #[.func (.func V) #[] #[]] 153)).alloc (.cells #[.int .i64 0, .slice none 0 0] 41))
  obtain ⟨_, _, _, h4, h5⟩ := after4 hB
  exact ret_vec2 Tryd.results89 (w.heap.size + 3) _ _ _ rfl rfl h4 rfl ⟨rfl, h5⟩

set_option maxHeartbeats 1000000 in
theorem paired_any (V : FuncId) (hV : V = 90) (f : Nat → Nat → Nat) (fb : Bool → Bool → Bool) (hT : Turns V f) (hf : ∀ x y, x < 18446744073709551616 → y < 18446744073709551616 → f x y < 18446744073709551616 ∧ ∀ j, (f x y).testBit j = fb (x.testBit j) (y.testBit j))
    (w : World) (n ba bb : Nat) (a b : Option Addr) (la lb : List Bool) (hva : Vc ba w n a la) (hvb : Vc bb w n b lb) (hn : n ≤ 4194304) :
    Calls Tryd.prog 89 #[.agg #[.int .i64 n, .slice a (need n 64) (need n 64)], .agg #[.int .i64 n, .slice b (need n 64) (need n 64)], .func (.func V) #[] #[]] w fun e w' => ∃ a', e = .returned (.tuple #[.agg #[.int .i64 n, .slice a' (need n 64) (need n 64)], .int .i64 0]) ∧ Vc w.heap.size w' n a' (List.zipWith fb la lb) ∧ Below w.heap.size w w' := by
  have hen : ∀ args w, (callFunc V args).run Tryd.prog w = .ok (.enter V args) w := by
    subst hV
    intro args w; kernel_rfl
  clear hV
  have HA := hide1 hva
  have HB := hide1 hvb
  have HM : ∀ W, W.heap[w.heap.size]? = some (.cells #[.int .i64 n, .slice a (need n 64) (need n 64)] 41 (0, 0)) → W.heap[w.heap.size + 1]? = some (.cells #[.int .i64 n, .slice b (need n 64) (need n 64)] 41 (0, 0)) → W.heap[w.heap.size + 2]? = some (.cells #[.func (.func V) #[] #[]] 153 (0, 0)) → Below w.heap.size w W →
      Hid (Calls Tryd.prog 107 #[.int .i64 n, .func (.func 110) #[] #[.pointer (some ⟨w.heap.size + 2, 0, none⟩), .pointer (some ⟨w.heap.size, 0, none⟩), .pointer (some ⟨w.heap.size + 1, 0, none⟩)]] W fun e w' => ∃ a', e = .returned (.agg #[.int .i64 n, .slice a' (need n 64) (need n 64)]) ∧ Vc W.heap.size w' n a' (List.zipWith fb la lb) ∧ Below W.heap.size W w') := by
    intro W h1 h2 h3 hB
    refine made_any 110 rfl #[.pointer (some ⟨w.heap.size + 2, 0, none⟩), .pointer (some ⟨w.heap.size, 0, none⟩), .pointer (some ⟨w.heap.size + 1, 0, none⟩)] W n (fun i => f (chunk 64 la i) (chunk 64 lb i)) (List.zipWith fb la lb) hn (by simp [HA.out.len, HB.out.len]) ?_ ?_
    · intro i hi
      obtain ⟨q1, q2⟩ := hf (chunk 64 la i) (chunk 64 lb i) (chunk64_lt _ _) (chunk64_lt _ _)
      refine ⟨q1, fun j hj hlt => ?_⟩
      rw [q2, chunk_testBit, chunk_testBit]
      rw [List.getD_eq_getElem?_getD, List.getD_eq_getElem?_getD, List.getD_eq_getElem?_getD, List.getElem?_zipWith, List.getElem?_eq_getElem (by rw [HA.out.len]; exact hlt), List.getElem?_eq_getElem (by rw [HB.out.len]; exact hlt)]
      simp [hj]
    · intro i W' hi hB'
      obtain ⟨ga, rfl, _⟩ := HA.out.cell hi
      obtain ⟨gb, rfl, _⟩ := HB.out.cell hi
      have hBB := hB.trans (hB'.mono hB.size)
      exact paired1_any V f hT hen W' (w.heap.size + 2) w.heap.size (w.heap.size + 1) ga gb n ba bb la lb i hi ((hB'.block _ (lt_heap h3)).trans h3) ((hB'.block _ (lt_heap h1)).trans h1) ((hB'.block _ (lt_heap h2)).trans h2) (HA.out.below hBB (Nat.le_refl _)) (HB.out.below hBB (Nat.le_refl _)) hn
  have HM' : Hid (∀ W, (∃ X, X = ((((w.alloc (.cells #[.int .i64 n, .slice a (need n 64) (need n 64)] 41)).alloc (.cells #[.int .i64 n, .slice b (need n 64) (need n 64)] 41)).alloc (.cells #[.func (.func V) #[] #[]] 153)).alloc (.cells #[.int .i64 0, .slice none 0 0] 41)) ∧ W = X) →
      Calls Tryd.prog 107 #[.int .i64 n, .func (.func 110) #[] #[.pointer (some ⟨w.heap.size + 2, 0, none⟩), .pointer (some ⟨w.heap.size, 0, none⟩), .pointer (some ⟨w.heap.size + 1, 0, none⟩)]] W fun e w' => ∃ a', e = .returned (.agg #[.int .i64 n, .slice a' (need n 64) (need n 64)]) ∧ Vc (w.heap.size + 4) w' n a' (List.zipWith fb la lb) ∧ w'.heap[w.heap.size + 3]? = some (.cells #[.int .i64 0, .slice none 0 0] 41 (0, 0)) ∧ Below w.heap.size w w') := by
    rintro W ⟨X, rfl, rfl⟩
    obtain ⟨h1, h2, h3, h4, h5⟩ := after4 (Below.refl _ ((((w.alloc (.cells #[.int .i64 n, .slice a (need n 64) (need n 64)] 41)).alloc (.cells #[.int .i64 n, .slice b (need n 64) (need n 64)] 41)).alloc (.cells #[.func (.func V) #[] #[]] 153)).alloc (.cells #[.int .i64 0, .slice none 0 0] 41)))
    refine (HM _ h1 h2 h3 h5).out.mono ?_
    rintro e w' ⟨a', rfl, hv, hb⟩
    obtain ⟨_, _, _, h4, h5⟩ := after4 hb
    exact ⟨a', rfl, hv.mono (by simp), h4, h5⟩
  clear HM hva hvb
  have h' : ((n : Int) != (n : Int)) = false := by simp
  go_enter Tryd.func89, Tryd.ntmps89
  go_wp2_with (first | (go_at_call 107; refine (HM'.out _ ⟨_, rfl, rfl⟩).mono ?_; rintro e w1 ⟨a', rfl, hv1, hs, hbw⟩; obtain ⟨q0, q1, q2, q3, q4⟩ := box2 hs; have HS := hide1 hs; have V1 := hide1 hv1; clear hs hv1))
  refine ret_vec2 Tryd.results89 (w.heap.size + 3) _ _ _ rfl rfl (set_box2 HS.out) rfl ⟨_, rfl, ?_, ?_⟩
  · exact ((V1.out.setCell (by dsimp only; omega) _).setCell (by dsimp only; omega) _).mono (by omega)
  · exact (hbw.setCell (by simp; try omega) _).setCell (by simp; try omega) _

theorem xor_bits : ∀ x y, x < 18446744073709551616 → y < 18446744073709551616 → x ^^^ y < 18446744073709551616 ∧ ∀ j, (x ^^^ y).testBit j = (x.testBit j ^^ y.testBit j) :=
  fun x y hx hy => ⟨Nat.xor_lt_two_pow (n := 64) hx hy, fun j => by rw [Nat.testBit_xor]⟩
theorem and_bits : ∀ x y, x < 18446744073709551616 → y < 18446744073709551616 → x &&& y < 18446744073709551616 ∧ ∀ j, (x &&& y).testBit j = (x.testBit j && y.testBit j) :=
  fun x y hx _ => ⟨Nat.lt_of_le_of_lt Nat.and_le_left hx, fun j => by rw [Nat.testBit_and]⟩

set_option maxHeartbeats 1000000 in
theorem xor_any (w : World) (n ba bb : Nat) (a b : Option Addr) (la lb : List Bool) (hva : Vc ba w n a la) (hvb : Vc bb w n b lb) (hn : n ≤ 4194304) :
    Calls Tryd.prog 64 #[.agg #[.int .i64 n, .slice a (need n 64) (need n 64)], .agg #[.int .i64 n, .slice b (need n 64) (need n 64)]] w fun e w' => ∃ a', e = .returned (.tuple #[.agg #[.int .i64 n, .slice a' (need n 64) (need n 64)], .int .i64 0]) ∧ Vc w.heap.size w' n a' (List.zipWith (fun x y => x ^^ y) la lb) ∧ Below w.heap.size w w' := by
  have hP := fun w h1 h2 => hide1 (paired_any 90 rfl _ (fun x y => x ^^ y) xor_turns xor_bits w n ba bb a b la lb h1 h2 hn)
  have HA := hide1 hva
  have HB := hide1 hvb
  clear hva hvb
  go_enter Tryd.func64, Tryd.ntmps64
  go_wp2_with (first | (go_at_call 89; refine (hP _ (((HA.out.alloc _).alloc _).alloc _) (((HB.out.alloc _).alloc _).alloc _)).out.mono ?_; rintro e w1 ⟨a', rfl, hv1, hb⟩; obtain ⟨_, _, hs, hbw⟩ := after3 hb; obtain ⟨q0, q1, q2, q3, q4⟩ := box2 hs; have HS := hide1 hs; have V1 := hide1 hv1; clear hs hv1))
  refine ret_vec2 Tryd.results64 (w.heap.size + 2) _ _ _ rfl rfl (set_box2 HS.out) rfl ⟨_, rfl, ?_, ?_⟩
  · exact ((V1.out.setCell (by simp; try omega) _).setCell (by simp; try omega) _).mono (by simp; omega)
  · exact (hbw.setCell (by simp; try omega) _).setCell (by simp; try omega) _

theorem chunks_inj {la lb : List Bool} (hl : la.length = lb.length) (h : chunks 64 la = chunks 64 lb) : la = lb := by
  apply bool_ext hl
  intro j hj
  have hk : j / 64 < need la.length 64 := by rw [need64]; omega
  have h1 := chunks_get hk
  rw [h, chunks_get (by rw [← hl]; exact hk)] at h1
  have h2 := congrArg (fun x => x.testBit (j % 64)) (Option.some.inj h1)
  simp only [chunk_testBit, Nat.div_add_mod] at h2
  have : j % 64 < 64 := Nat.mod_lt _ (by omega)
  simp [this] at h2
  exact h2.symm

/- words in memory, to be read -/
structure Nl (w : World) (m : Nat) (a : Option Addr) (ws : List Nat) : Prop where
  len : ws.length = m
  at' : ∀ (j : Nat) (x : Nat), ws[j]? = some x → ∃ g o, a = some ⟨g, o, none⟩ ∧ w.cell? ⟨g, o + j, none⟩ = some (.int .u64 (x : Int))

theorem Vc.nl {b : Nat} {w : World} {n : Nat} {a : Option Addr} {l : List Bool} (h : Vc b w n a l) : Nl w (need n 64) a (chunks 64 l) :=
  ⟨by rw [chunks_length, h.len], fun j x hj => by
    obtain ⟨h1, h2⟩ := chunks_get' hj
    rw [h.len] at h1
    obtain ⟨g, h3, _, _, h4⟩ := h.cell h1
    exact ⟨g, 0, h3, by rw [Nat.zero_add, h2]; exact h4⟩⟩

theorem Nl.below {B : Nat} {w w' : World} {m : Nat} {a : Option Addr} {ws : List Nat} (h : Nl w m a ws) (hB : Below B w w') (hs : w.heap.size ≤ B) : Nl w' m a ws :=
  ⟨h.len, fun j x hj => by
    obtain ⟨g, o, h1, h2⟩ := h.at' j x hj
    exact ⟨g, o, h1, (hB.cell (p := ⟨g, o + j, none⟩) (by have := lt_cell h2; simp; omega)).trans h2⟩⟩

theorem take_succ_eq {α : Type} {xs ys : List α} {k : Nat} {x : α} (h : xs.take k = ys.take k) (h1 : xs[k]? = some x) (h2 : ys[k]? = some x) : xs.take (k + 1) = ys.take (k + 1) := by
  rw [List.take_add_one, List.take_add_one, h, h1, h2]

theorem gr_drewN (w : World) (q : Nat) : ∃ q' os, w.drewN q = Sort.grow (w.drewN q') os := ⟨q, #[], by rw [Sort.grow_empty]⟩

end Go.Proofs.YtlkkninnfiaedaaDoor.T

namespace Go.Proofs.YtlkkninnfiaedaaDoor.T
open Go.RowKit
set_option maxRecDepth 100000
attribute [local go_sem] not_any mf_any

set_option maxHeartbeats 2000000 in
theorem nums_any (w : World) (m c c' : Nat) (a b : Option Addr) (xs : List Nat) (ha : Nl w m a xs) (hb : Nl w m b xs) (hm : m ≤ 65536) :
    Calls Tryd.prog 20 #[.slice a m c, .slice b m c'] w fun e w' => e = .returned (.bool true) ∧ ∃ q, w' = w.drewN q := by
  have HA := hide1 ha
  have HB := hide1 hb
  clear ha hb
  have h' : ((m : Int) != (m : Int)) = false := by simp
  go_enter Tryd.func20, Tryd.ntmps20
  go_wp2
  go_loopw [5] (fun i wr => ∃ k q : Nat, k ≤ m ∧ i = .int .i64 k ∧ wr = w.drewN q) (fun i _ => m - (intOf i).toNat)
  case atStart => exact ⟨0, 0, Nat.zero_le _, rfl, rfl⟩
  case round =>
    obtain ⟨k, q, hk, rfl, rfl⟩ := hrel
    by_cases hlt : k < m
    · obtain ⟨x, hx⟩ : ∃ x, xs[k]? = some x := ⟨_, List.getElem?_eq_getElem (by rw [HA.out.len]; exact hlt)⟩
      obtain ⟨ga, oa, rfl, hca⟩ := HA.out.at' k x hx
      obtain ⟨gb, ob, rfl, hcb⟩ := HB.out.at' k x hx
      have hca' : (w.drewN q).cell? ⟨ga, oa + k, none⟩ = some (.int .u64 (x : Int)) := hca
      have hcb' : (w.drewN q).cell? ⟨gb, ob + k, none⟩ = some (.int .u64 (x : Int)) := hcb
      clear hx
      have h2 : ((x : Int) != (x : Int)) = false := by simp
      go_wp2
      go_quiet (fail)
      go_wp2
      exact ⟨⟨k + 1, q + nq, by omega, by go_num, rfl⟩, by simp [intOf]; omega⟩
    · have : k = m := by omega
      subst this
      go_wp2
      go_ret
      exact ⟨rfl, q, rfl⟩

end Go.Proofs.YtlkkninnfiaedaaDoor.T

namespace Go.Proofs.YtlkkninnfiaedaaDoor.T
open Go.RowKit
set_option maxRecDepth 100000
attribute [local go_sem] not_any mf_any

theorem take_snoc {l : List Bool} {k : Nat} {b : Bool} (h : l[k]? = some b) : l.take (k + 1) = l.take k ++ [b] := by
  rw [List.take_add_one, h]
  rfl

theorem chunks_snoc_false {s : Nat} (hs : 0 < s) (A : List Bool) : chunks s (A ++ [false]) = if A.length % s = 0 then chunks s A ++ [0] else chunks s A := by
  have hg : ∀ i, (A ++ [false]).getD i false = A.getD i false := by
    intro i
    simp only [List.getD_eq_getElem?_getD, List.getElem?_append]
    by_cases h : i < A.length
    · simp [h]
    · rw [if_neg h, List.getElem?_eq_none (show A.length ≤ i by omega)]
      match h' : i - A.length with
      | 0 => rfl
      | j + 1 => rfl
  symm
  split
  · rename_i h
    apply chunks_ext
    · rw [List.length_append, chunks_length, List.length_append, List.length_singleton, List.length_singleton]
      unfold need
      obtain ⟨q, hq⟩ : ∃ q, A.length = s * q := ⟨A.length / s, by have := Nat.div_add_mod A.length s; omega⟩
      rw [hq, show s * q + 1 + s - 1 = s * (q + 1) by rw [Nat.mul_add]; omega, Nat.mul_div_cancel_left _ hs, show s * q + s - 1 = s * q + (s - 1) by omega, Nat.mul_add_div hs, Nat.div_eq_of_lt (show s - 1 < s by omega)]
    · intro k x hx
      rw [List.getElem?_append] at hx
      split at hx
      · obtain ⟨h1, rfl⟩ := chunks_get' hx
        refine ⟨chunk_lt _ _ _, fun j hj => ?_⟩
        rw [chunk_testBit, hg]
        simp [hj]
      · rename_i hk
        rw [chunks_length] at hk hx
        have hx0 : x = 0 := by
          match h' : k - need A.length s, hx with
          | 0, hx => simpa [h'] using hx.symm
          | j + 1, hx => simp at hx
        subst hx0
        refine ⟨Nat.two_pow_pos s, fun j hj => ?_⟩
        rw [Nat.zero_testBit, hg, List.getD_eq_getElem?_getD, List.getElem?_eq_none]
        · rfl
        · have h1 : A.length ≤ s * need A.length s := by
            unfold need
            have := Nat.div_add_mod (A.length + s - 1) s
            have := Nat.mod_lt (A.length + s - 1) hs
            omega
          have h2 : s * need A.length s ≤ s * k := Nat.mul_le_mul_left _ (by omega)
          omega
  · rename_i h
    apply chunks_ext
    · rw [chunks_length, List.length_append, List.length_singleton]
      unfold need
      have h0 := Nat.div_add_mod A.length s
      have h1 := Nat.mod_lt A.length hs
      rw [show A.length + s - 1 = s * (A.length / s) + (A.length % s + s - 1) by omega, show A.length + 1 + s - 1 = s * (A.length / s) + (A.length % s + s) by omega, Nat.mul_add_div hs, Nat.mul_add_div hs]
      congr 1
      rw [show A.length % s + s - 1 = s * 1 + (A.length % s - 1) by omega, show A.length % s + s = s * 1 + A.length % s by omega, Nat.mul_add_div hs, Nat.mul_add_div hs, Nat.div_eq_of_lt (by omega), Nat.div_eq_of_lt h1]
    · intro k x hx
      obtain ⟨h1, rfl⟩ := chunks_get' hx
      refine ⟨chunk_lt _ _ _, fun j hj => ?_⟩
      rw [chunk_testBit, hg]
      simp [hj]

theorem chunk_last_lt {s : Nat} (A : List Bool) : chunk s (A ++ [false]) (A.length / s) < 2 ^ (A.length % s) := by
  have h0 := Nat.div_add_mod A.length s
  apply Nat.lt_pow_two_of_testBit
  intro j hj
  rw [chunk_testBit, List.getD_eq_getElem?_getD, List.getElem?_append]
  split
  · omega
  · match h' : s * (A.length / s) + j - A.length with
    | 0 => simp
    | i + 1 => simp

theorem chunks_snoc_true {s : Nat} (hs : 0 < s) (A : List Bool) : chunks s (A ++ [true]) = (chunks s (A ++ [false])).set (A.length / s) (chunk s (A ++ [false]) (A.length / s) + 2 ^ (A.length % s)) := by
  have e : A ++ [true] = (A ++ [false]).set A.length true := by
    rw [List.set_append]
    simp
  rw [e, chunks_set_true hs _ _ (by simp), Nat.or_comm, nat_join (A.length % s) _ _ (Nat.mod_self _) (chunk_last_lt A), Nat.add_comm]

theorem need_snoc64 (k : Nat) : need (k + 1) 64 = if k % 64 = 0 then need k 64 + 1 else need k 64 := by
  rw [need64, need64]
  split <;> omega
theorem need_snoc8 (k : Nat) : need (k + 1) 8 = if k % 8 = 0 then need k 8 + 1 else need k 8 := by
  rw [need8, need8]
  split <;> omega

end Go.Proofs.YtlkkninnfiaedaaDoor.T
