/- The document's product of matrices: where there is none; lists one behind the other, parts of lists. -/
import Derived.Test.YtnabkhhoocgkgaaMc
import Derived.Test.YtnabkhhoocgkgaaN
import Derived.Maps.AppendAt
import Derived.Laws.OwnMore
import Derived.Deep.DeepMust
namespace Go.Proofs.Ytnabkhhoocgkgaa
open Go.RowKit
set_option maxRecDepth 100000
attribute [local go_sem] not_any mf_any

theorem info22' : (Try.prog.info? 22).map (fun i => (i.zero, i.size, i.bytes)) = some (some (.int .u64 0), 1, 8) := by kernel_rfl

theorem row_form {w : World} {base : Nat} {e : TypeId} {size n : Nat} {v : Value} {xs : List Value} (h : w.ownsRow base e size v n xs) : ∃ a c, v = .slice a n c := by
  rcases h.2 with ⟨h1, h2⟩ | ⟨g, cap, cur, h1, _⟩
  · exact ⟨none, 0, by rw [h1, h2]⟩
  · exact ⟨_, _, h1⟩

theorem row_some {w : World} {base : Nat} {e : TypeId} {size n : Nat} {v : Value} {xs : List Value} (h : w.ownsRow base e size v n xs) (hn : 0 < n) : ∃ g c, v = .slice (some ⟨g, 0, none⟩) n c ∧ base ≤ g ∧ g < w.heap.size := by
  rcases h.2 with ⟨h1, h2⟩ | ⟨g, cap, cur, h1, h2, h3, _⟩
  · omega
  · exact ⟨g, cap, h1, h2, lt_heap h3⟩

theorem row_below {W W' : World} {base : Nat} {e : TypeId} {size k : Nat} {v : Value} {xs : List Value} (h : W.ownsRow base e size v k xs) (hB : Below W.heap.size W W') : W'.ownsRow base e size v k xs := by
  refine ⟨h.1, ?_⟩
  rcases h.2 with h0 | ⟨g, cap, cur, hv, hg, hh, rest⟩
  · exact .inl h0
  · exact .inr ⟨g, cap, cur, hv, hg, (hB.block g (lt_heap hh)).trans hh, rest⟩

theorem own_nl {w : World} {base n : Nat} {a : Option Addr} {c : Nat} {ws : List Nat} (h : w.ownsRow base 22 1 (.slice a n c) n (u64s ws)) (hl : ws.length = n) : Nl w n a ws :=
  ⟨hl, fun j x hj => by
    have hjn : j < n := by rw [← hl]; exact (List.getElem?_eq_some_iff.1 hj).1
    obtain ⟨g, c', hv, _⟩ := row_some h (by omega)
    cases hv
    refine ⟨g, 0, rfl, ?_⟩
    rw [Nat.zero_add, h.cellAt j (by omega)]
    simp [u64s, hj]⟩

/- the first so many -/
def upto (f : Nat → Nat) (c : Nat) : List Nat := (List.range c).map f
theorem upto_length (f : Nat → Nat) (c : Nat) : (upto f c).length = c := by simp [upto]
theorem upto_succ (f : Nat → Nat) (c : Nat) : upto f (c + 1) = upto f c ++ [f c] := by simp [upto, List.range_succ]
theorem upto_at {f : Nat → Nat} {c j : Nat} (h : j < c) : at0 (upto f c) j = f j := by
  apply at0_eq
  unfold upto
  rw [List.getElem?_map, List.getElem?_range h]
  rfl
theorem upto_told (f : Nat → Nat) (c : Nat) : upto f c = told f 0 c c := by
  unfold upto told
  apply List.map_congr_left
  intro i hi
  rw [if_pos (by simpa using hi)]
theorem u64s_snoc (ws : List Nat) (x : Nat) : u64s ws ++ [.int .u64 (x : Int)] = u64s (ws ++ [x]) := by simp [u64s]

/- where l[q:r] lies -/
def cutAt (a : Option Addr) (c q : Nat) : Option Addr := if c = q then a else a.map (·.add (q * 1))
def cutOut (ws : List Nat) (q k : Nat) : List Nat := (ws.drop q).take k

theorem addr_addq (g o q : Nat) : (⟨g, o, none⟩ : Addr).add q = ⟨g, o + q, none⟩ := by unfold Addr.add; split <;> simp_all

theorem run_cut (w : World) (a : Option Addr) (n c q k : Nat) (h2 : q + k ≤ c) :
    (Instr.slice 33 (.slice a n c) (some (.int .i64 (q : Int))) (some (.int .i64 ((q : Int) + (k : Int)))) none).run Try.prog w = .ok (.slice (cutAt a c q) k (c - q)) w := by
  obtain ⟨i0, hi, hz0, hz1, hz2⟩ := info_parts info22'
  have a1 : (q : Int) ≤ ((q + k : Nat) : Int) := by omega
  have a2 : ((q + k : Nat) : Int) ≤ (c : Int) := by omega
  have a3 : q ≤ q + k := by omega
  rw [← Int.natCast_add]
  have := Nat.add_sub_cancel_left (n := q) (m := k)
  generalize q + k = r at *
  subst this
  simp [Instr.slice, run_underlying Try.underlying33, Instr.sliceBounds, run_sliceBound, sizeOf, typeInfo, hi, hz1, a3, h2, cutAt]

theorem nl_cut {w : World} {n c q k : Nat} {a : Option Addr} {l : List Nat} (h : Nl w n a l) (h2 : q + k ≤ n) (h3 : n ≤ c) : Nl w k (cutAt a c q) (cutOut l q k) := by
  have hlen : (cutOut l q k).length = k := by
    unfold cutOut
    rw [List.length_take, List.length_drop, h.len]
    omega
  refine ⟨hlen, fun j x hj => ?_⟩
  have hjl : j < k := by
    have := (List.getElem?_eq_some_iff.1 hj).1
    omega
  unfold cutOut at hj
  rw [List.getElem?_take_of_lt hjl, List.getElem?_drop] at hj
  obtain ⟨g, o, rfl, hc⟩ := h.at' (q + j) x hj
  refine ⟨g, o + q * 1, ?_, ?_⟩
  · unfold cutAt
    rw [if_neg (by omega), Option.map_some, addr_addq]
  · rw [show o + q * 1 + j = o + (q + j) by omega]
    exact hc

theorem cut_at0 {l : List Nat} {q k j : Nat} (h : j < k) : at0 (cutOut l q k) j = at0 l (q + j) := by
  unfold cutOut at0
  rw [List.getD_eq_getElem?_getD, List.getD_eq_getElem?_getD, List.getElem?_take_of_lt h, List.getElem?_drop]

theorem small_cut {ws : List Nat} (h : Small ws) (q k : Nat) : Small (cutOut ws q k) := fun j x hj => by
  have hjl : j < k := by
    have := (List.getElem?_eq_some_iff.1 hj).1
    unfold cutOut at this
    rw [List.length_take] at this
    omega
  unfold cutOut at hj
  rw [List.getElem?_take_of_lt hjl, List.getElem?_drop] at hj
  exact h _ x hj

theorem small_upto {f : Nat → Nat} {c : Nat} (h : ∀ j, f j < 18446744073709551616) : Small (upto f c) := fun j x hj => by
  have hjl : j < c := by
    have := (List.getElem?_eq_some_iff.1 hj).1
    rwa [upto_length] at this
  unfold upto at hj
  rw [List.getElem?_map, List.getElem?_range hjl] at hj
  cases hj
  exact h j

/- the dot of row i and column j is place i * n + j of the product -/
theorem dot_place (xs ys : List Nat) {i j k n : Nat} (hj : j < n) : sumTo (prods (cutOut xs (i * k) k) (upto (fun t => at0 ys (t * n + j)) k)) k = sumTo (mprod xs ys k n (i * n + j)) k := by
  apply sumTo_ext
  intro t ht
  unfold prods mprod
  rw [cut_at0 ht, upto_at ht, (tpos hj).1, (tpos hj).2]

theorem sized_yes2 {m k : Nat} (h1 : 1 ≤ m ∧ m ≤ 6) (h2 : 1 ≤ k ∧ k ≤ 6) : decide ((1 ≤ (m : Int) ∧ (m : Int) ≤ 6) ∧ (1 ≤ (k : Int) ∧ (k : Int) ≤ 6)) = true := by
  apply decide_eq_true
  omega

set_option maxHeartbeats 2000000 in
theorem rmatmul_no (l m k n : Int) (na nb ca cb : Nat) (a b : Option Addr) (w : World) (h : ¬ (isFilled m k na = true ∧ isFilled k n nb = true ∧ (1 ≤ l ∧ l ≤ 64))) :
    Calls Try.prog 33 #[.int .i64 l, .int .i64 m, .int .i64 k, .int .i64 n, .slice a na ca, .slice b nb cb] w fun e w' => e = .returned (.tuple #[.slice none 0 0, .int .i64 11]) ∧ w' = w := by
  have c1 := fun w => hide1 (good_any l w)
  have c2 := fun w => hide1 (sized_any m k w)
  have c3 := fun w => hide1 (sized_any k n w)
  by_cases h1 : 1 ≤ l ∧ l ≤ 64
  · rw [decide_eq_true h1] at c1
    by_cases h2 : (1 ≤ m ∧ m ≤ 6) ∧ (1 ≤ k ∧ k ≤ 6)
    · rw [decide_eq_true h2] at c2
      by_cases h3 : (1 ≤ k ∧ k ≤ 6) ∧ (1 ≤ n ∧ n ≤ 6)
      · rw [decide_eq_true h3] at c3
        obtain ⟨M, rfl⟩ : ∃ M : Nat, m = M := ⟨m.toNat, by omega⟩
        obtain ⟨K, rfl⟩ : ∃ K : Nat, k = K := ⟨k.toNat, by omega⟩
        obtain ⟨N, rfl⟩ : ∃ N : Nat, n = N := ⟨n.toNat, by omega⟩
        have b1 : M * K ≤ 6 * 6 := Nat.mul_le_mul (by omega) (by omega)
        have b2 : K * N ≤ 6 * 6 := Nat.mul_le_mul (by omega) (by omega)
        have e1 : IntKind.i64.wrap ((M : Int) * (K : Int)) = ((M * K : Nat) : Int) := by rw [← Int.natCast_mul, wrap_i64_nat (by omega)]
        have e2 : IntKind.i64.wrap ((K : Int) * (N : Int)) = ((K * N : Nat) : Int) := by rw [← Int.natCast_mul, wrap_i64_nat (by omega)]
        have hf1 : na = M * K → isFilled M K na = true := filled_nat (by omega) (by omega)
        have hf2 : nb = K * N → isFilled K N nb = true := filled_nat (by omega) (by omega)
        obtain ⟨p, hp⟩ : ∃ p, p = M * K := ⟨_, rfl⟩
        obtain ⟨q, hq⟩ : ∃ q, q = K * N := ⟨_, rfl⟩
        rw [← hp] at e1 hf1
        rw [← hq] at e2 hf2
        clear hp hq b1 b2
        by_cases g1 : na = p
        · have g1' : ((na : Int) != (p : Int)) = false := by rw [g1]; simp
          have g2 : nb ≠ q := fun g2 => h ⟨hf1 g1, hf2 g2, h1⟩
          have g2' : ((nb : Int) != (q : Int)) = true := by rw [bne_iff_ne]; omega
          clear h hf1 hf2 g1 g2 h1 h2 h3
          go_enter Try.func33, Try.ntmps33
          go_wp2_with fail
          refine (c1 _).out.mono ?_
          rintro e w' ⟨rfl, rfl⟩
          go_wp2_with fail
          refine (c2 _).out.mono ?_
          rintro e w' ⟨rfl, rfl⟩
          go_wp2_with fail
          refine (c3 _).out.mono ?_
          rintro e w' ⟨rfl, rfl⟩
          go_wp2
          go_ret2
          exact ⟨rfl, rfl⟩
        · have g1' : ((na : Int) != (p : Int)) = true := by rw [bne_iff_ne]; omega
          clear h hf1 hf2 g1 h1 h2 h3
          go_enter Try.func33, Try.ntmps33
          go_wp2_with fail
          refine (c1 _).out.mono ?_
          rintro e w' ⟨rfl, rfl⟩
          go_wp2_with fail
          refine (c2 _).out.mono ?_
          rintro e w' ⟨rfl, rfl⟩
          go_wp2_with fail
          refine (c3 _).out.mono ?_
          rintro e w' ⟨rfl, rfl⟩
          go_wp2
          go_ret2
          exact ⟨rfl, rfl⟩
      · rw [decide_eq_false h3] at c3
        clear h
        go_enter Try.func33, Try.ntmps33
        go_wp2_with fail
        refine (c1 _).out.mono ?_
        rintro e w' ⟨rfl, rfl⟩
        go_wp2_with fail
        refine (c2 _).out.mono ?_
        rintro e w' ⟨rfl, rfl⟩
        go_wp2_with fail
        refine (c3 _).out.mono ?_
        rintro e w' ⟨rfl, rfl⟩
        go_wp2
        go_ret2
        exact ⟨rfl, rfl⟩
    · rw [decide_eq_false h2] at c2
      clear h
      go_enter Try.func33, Try.ntmps33
      go_wp2_with fail
      refine (c1 _).out.mono ?_
      rintro e w' ⟨rfl, rfl⟩
      go_wp2_with fail
      refine (c2 _).out.mono ?_
      rintro e w' ⟨rfl, rfl⟩
      go_wp2
      go_ret2
      exact ⟨rfl, rfl⟩
  · rw [decide_eq_false h1] at c1
    clear h
    go_enter Try.func33, Try.ntmps33
    go_wp2_with fail
    refine (c1 _).out.mono ?_
    rintro e w' ⟨rfl, rfl⟩
    go_wp2
    go_ret2
    exact ⟨rfl, rfl⟩

end Go.Proofs.Ytnabkhhoocgkgaa
