/- The program's Fold, where all may be. -/
import Derived.Test.YtgcbdjmlhjbacaaJ20
namespace Go.Proofs.Ytgcbdjmlhjbacaa.Gi
open Go.RowKit Go.Shelf Ri
open Go.Proofs.Ytgcbdjmlhjbacaa.St (take_f take_p skip_p ready_f ready2_f done_f)
set_option maxRecDepth 100000
attribute [local go_sem] Oper.semAt_some Ri.not_any Ri.mf_any part

/- a number's share: its bits' shares added up, place by place -/
def foF (L n : Nat) (l : List Nat) (t : Nat) : Nat := sumTo (fun k => at0 l ((t / n * L + k) * n + t % n)) L % 2 ^ L
def rowG (R : Nat) (l : List Nat) (i : Nat) : List Nat := tl (fun j => at0 l (i * R + j)) R
def outG (L n : Nat) (l : List Nat) {q : Nat} (pre : List (Ix q)) : List Nat := pre.flatMap fun x => colL L n (rowG (L * n) l x.1) (L * n)
theorem outG_snoc (L n : Nat) (l : List Nat) {q : Nat} (pre : List (Ix q)) (x : Ix q) : outG L n l (pre ++ [x]) = outG L n l pre ++ colL L n (rowG (L * n) l x.1) (L * n) := by simp [outG]
theorem outG_length (L n : Nat) (l : List Nat) {q : Nat} (pre : List (Ix q)) : (outG L n l pre).length = pre.length * n := by
  induction pre with
  | nil => simp [outG]
  | cons x pre ih => rw [outG, List.flatMap_cons, List.length_append, ← outG, ih, colL, tl_length, List.length_cons, Nat.succ_mul, Nat.add_comm]
theorem sumTo_append (f : Nat → Nat) (a : Nat) : ∀ b, sumTo f (a + b) = sumTo f a + sumTo (fun j => f (a + j)) b
  | 0 => rfl
  | b + 1 => by
    rw [← Nat.add_assoc, sumTo, sumTo_append f a b, sumTo]
    omega
theorem sumTo_none {f : Nat → Nat} : ∀ {k : Nat}, (∀ j, j < k → f j = 0) → sumTo f k = 0
  | 0, _ => rfl
  | k + 1, h => by rw [sumTo, sumTo_none (fun j hj => h j (by omega)), h k (by omega)]
theorem sumTo_one {f : Nat → Nat} {i : Nat} : ∀ {k : Nat}, i < k → (∀ j, j < k → j ≠ i → f j = 0) → sumTo f k = f i
  | 0, h, _ => absurd h (by omega)
  | k + 1, h, h0 => by
    rw [sumTo]
    by_cases hi : i = k
    · subst hi
      rw [sumTo_none (fun j hj => h0 j (by omega) (by omega)), Nat.zero_add]
    · rw [sumTo_one (by omega) (fun j hj hn => h0 j (by omega) hn), h0 k (by omega) (fun e => hi e.symm), Nat.add_zero]
theorem col_sum {n i : Nat} (l : List Nat) (hi : i < n) : ∀ q, sumTo (colF n i l) (q * n) = sumTo (fun k => at0 l (k * n + i)) q
  | 0 => by rw [Nat.zero_mul]; rfl
  | q + 1 => by
    rw [Nat.succ_mul, sumTo_append, col_sum l hi q, sumTo]
    congr 1
    rw [sumTo_one (i := i) hi (fun j hj hn => by
      show colF n i l (q * n + j) = 0
      rw [colF, place_mod hj, if_neg hn])]
    show colF n i l (q * n + i) = _
    rw [colF, place_mod hi, if_pos rfl]
theorem fo_blk {L n : Nat} (l : List Nat) (i t : Nat) (ht : t < n) : foF L n l (i * n + t) = sumTo (colF n t (rowG (L * n) l i)) (L * n) % 2 ^ L := by
  rw [foF, place_div ht, place_mod ht, col_sum _ ht]
  congr 1
  refine sumTo_ext fun k hk => ?_
  have h1 : k * n + t < L * n := by
    have h2 : (k + 1) * n ≤ L * n := Nat.mul_le_mul_right n hk
    rw [Nat.succ_mul] at h2
    omega
  rw [rowG, tl_at h1, Nat.add_mul, Nat.mul_assoc, Nat.add_assoc]
theorem outG_all {L n q : Nat} (l : List Nat) {ys : List (Ix q)} (h : ys.map (·.1) = List.range q) : outG L n l ys = tl (foF L n l) (q * n) := by
  rw [outG, flat_map (fun i => colL L n (rowG (L * n) l i) (L * n)) (fun x : Ix q => x.1), h]
  exact flat_range (fun i j => sumTo (colF n j (rowG (L * n) l i)) (L * n) % 2 ^ L) _ _ _ fun i t _ ht => fo_blk l i t ht

set_option maxHeartbeats 8000000 in
theorem fold_good (L n q m c : Nat) (a : Option Addr) (l : List Nat) (w : World) (h1 : 1 ≤ L) (h2 : L ≤ 64) (h3 : 1 ≤ n) (h4 : n ≤ 6) (hm : m = q * (L * n)) (hmx : m ≤ 4096) (hc : m ≤ c) (ha : Nl w m a l) (hs : Small l) (hf : fitsAll (L : Int) l = true) :
    Calls Try.prog 13 #[.int .i64 (L : Int), .int .i64 (n : Int), .slice a m c] w fun e w' => ∃ a1 c1, e = .returned (.tuple #[.slice a1 (q * n) c1, .int .i64 0]) ∧ Nl w' (q * n) a1 (tl (foF L n l) (q * n)) ∧ Below w.heap.size w w' := by
  have mixed := St.mixed
  have HA := hide1 ha
  have kN := fun w => hide1 (side_any (n : Int) w)
  rw [okN_of h3 h4] at kN
  have kF : Hid (∀ W, Below w.heap.size w W → Calls Try.prog 25 #[.int .i64 (L : Int), .slice a m c] W fun e w' => e = .returned (.bool true) ∧ ∃ q, w' = W.drewN q) := fun W hW => by
    have h := are_any (L : Int) W m c a l (ha.below hW (Nat.le_refl _)) hs (by omega)
    rw [okW_of h1 h2, hf] at h
    exact h
  have hln : L * n ≤ 384 := Nat.mul_le_mul h2 h4
  have hln1 : 1 ≤ L * n := Nat.mul_pos h1 h3
  obtain ⟨R, hR⟩ : ∃ R, R = L * n := ⟨_, rfl⟩
  rw [← hR] at hln hln1 hm
  have e1 : IntKind.i64.wrap ((L : Int) * (n : Int)) = (R : Int) := by rw [← Int.natCast_mul, ← hR, wrap_i64_nat (by omega)]
  have em : (m : Int).tmod (R : Int) = 0 := by rw [hm]; exact (congrArg (Nat.cast (R := Int)) (Nat.mul_mod_left q R))
  have hqn : m / L = q * n := by rw [hm, hR, show q * (L * n) = L * (q * n) by rw [Nat.mul_left_comm], Nat.mul_div_cancel_left _ (by omega)]
  obtain ⟨Q, hQ⟩ : ∃ Q, Q = q * n := ⟨_, rfl⟩
  rw [← hQ] at hqn
  have hQm : Q ≤ 4096 := by rw [← hqn]; exact Nat.le_trans (Nat.div_le_self _ _) hmx
  have eq : (m : Int).tdiv (L : Int) = (Q : Int) := by rw [← hqn]; rfl
  have hq1 : q ≤ 4096 := by
    have : q * 1 ≤ q * R := Nat.mul_le_mul_left q hln1
    omega
  have hn0 : (R : Int) ≠ 0 := by omega
  have hn1 : ¬ R = 0 := by omega
  have hL0 : (L : Int) ≠ 0 := by omega
  have hL1 : ¬ L = 0 := by omega
  have hmk := make_empty Q (by omega)
  have HM := hide1 hm
  have HR := hide1 hR
  have HQ := hide1 hQ
  rw [← hQ]
  clear ha hm hQ hR hqn
  refine (callsIn_wide (n := 9)).1 ?_
  refine callsIn_of_wp_marks Try.func13 rfl trivial ?_ rfl
  simp only [Try.ntmps13, List.size_toArray, List.length_cons, List.length_nil, Nat.reduceAdd, Nat.reduceSub, Array.replicate_succ, Array.replicate_zero, List.push_toArray, List.append_toArray, List.nil_append, List.cons_append]
  gi_wp2_with fail
  generalize hW0 : World.alloc (World.alloc w _) _ = W0
  have b3 : W0.heap[w.heap.size]? = some (.cells #[.int .i64 (L : Int)] 3 (0, 0)) := by rw [← hW0]; exact (Below.heap_alloc _ _ _ (by simp)).trans (heap_alloc_new _ _)
  have b4 : W0.heap[w.heap.size + 1]? = some (.cells #[.int .i64 (n : Int)] 3 (0, 0)) := by
    have h := heap_alloc_new (w.alloc (.cells #[.int .i64 (L : Int)] 3)) (.cells #[.int .i64 (n : Int)] 3)
    rw [World.size_alloc] at h
    rw [← hW0]
    exact h
  have B0 : Below w.heap.size w W0 := by rw [← hW0]; exact (below1 _).alloc (by simp) _
  have s0 : W0.heap.size = w.heap.size + 2 := by rw [← hW0]; simp
  obtain ⟨b3n, hb3n⟩ : ∃ g, g = w.heap.size := ⟨_, rfl⟩
  obtain ⟨b4n, hb4n⟩ : ∃ g, g = w.heap.size + 1 := ⟨_, rfl⟩
  rw [← hb3n] at b3
  rw [← hb4n] at b4
  have c3 : ∀ X, Below W0.heap.size W0 X → X.cell? ⟨b3n, 0, none⟩ = some (.int .i64 (L : Int)) := fun X hX => by rw [Lib.cell_of_heap ((hX.block _ (lt_heap b3)).trans b3)]; rfl
  have c4 : ∀ X, Below W0.heap.size W0 X → X.cell? ⟨b4n, 0, none⟩ = some (.int .i64 (n : Int)) := fun X hX => by rw [Lib.cell_of_heap ((hX.block _ (lt_heap b4)).trans b4)]; rfl
  have c30 := c3 W0 (Below.refl _ _)
  have c40 := c4 W0 (Below.refl _ _)
  rw [← hb4n, ← hb3n]
  have HB3 := hide1 hb3n
  have HB4 := hide1 hb4n
  clear hW0 hb3n hb4n
  refine ⟨trivial, callsIn_wide.2 ((kN _).out.mono ?_)⟩
  rintro e w0 ⟨rfl, he0⟩
  obtain rfl := he0.symm
  clear he0
  gi_wp2_with fail
  refine ⟨trivial, callsIn_wide.2 ((kF.out _ B0).mono ?_)⟩
  rintro e w1 ⟨rfl, q1, hq1⟩
  have D1 : Below W0.heap.size W0 w1 := by rw [hq1]; exact below_drewN (Below.refl _ _) q1
  obtain ⟨H, s1⟩ : ∃ H, w1.heap.size = H := ⟨_, rfl⟩
  have sH : H = w.heap.size + 2 := by rw [← s1, hq1]; exact s0
  have c31 := c3 _ D1
  have c41 := c4 _ D1
  have DA : ∀ A B, Below W0.heap.size W0 ((w1.alloc A).alloc B) := fun A B => (D1.alloc D1.size A).alloc (by have := D1.size; simp; omega) B
  have c32 := fun A B => c3 _ (DA A B)
  have c42 := fun A B => c4 _ (DA A B)
  have SH := hide1 sH
  have S0 := hide1 s0
  clear hq1 c30 c40 sH s0 DA
  gi_wp2_with fail
  clear c32 c42
  refine ⟨trivial, callsIn_wide.2 ((chunk_any a m c R hln1 _).mono ?_)⟩
  rintro e w2 ⟨rfl, hw2⟩
  gi_wp2_with fail
  have hb3n := HB3.out
  have hb4n := HB4.out
  have sH := SH.out
  have s0 := S0.out
  obtain ⟨hg0, hb8, hbs, hbn, hz2, hbw⟩ := allocs4 w1 _ _ _ _ s1
  rw [← hw2] at hg0 hb8 hbs hbn hz2 hbw ⊢
  clear hw2
  obtain ⟨b, off, hab⟩ : ∃ b off, 0 < q → a = some ⟨b, off, none⟩ := by
    by_cases h0 : 0 < q
    · obtain ⟨g, o, e, _⟩ := HA.out.val (k := 0) (by rw [HM.out]; exact Nat.mul_pos h0 hln1)
      exact ⟨g, o, fun _ => e⟩
    · exact ⟨0, 0, fun h => absurd h h0⟩
  have BW : Below w.heap.size w w2 := (B0.trans (D1.mono B0.size)).trans (hbw.mono (by omega))
  have D2 : Below W0.heap.size W0 w2 := D1.trans (hbw.mono (by have := D1.size; omega))
  have P0 : Pu w b3n (H + 1) (H + 2) (H + 3) (.int .i64 (L : Int)) (.slice a m c) (.int .i64 (R : Int)) [] w2 := by
    refine ⟨⟨_, hb8, wo_made (by omega) (by omega) hg0⟩, ?_, hbs, hbn, BW, by omega, by omega, by omega, by omega⟩
    exact (D2.block _ (by omega)).trans b3
  have P4 : w2.heap[b4n]? = some (.cells #[.int .i64 (n : Int)] 3 (0, 0)) := (D2.block _ (by omega)).trans b4
  have n4 : b4n ≠ H + 1 := by omega
  clear hb3n hb4n sH s0
  refine wpIn_rangeFunc_ownG rfl (by omega) (gf := 42) (lb := #[.pointer (some ⟨H + 2, 0, none⟩), .pointer (some ⟨H + 3, 0, none⟩)]) rfl trivial (enters_of Try.func42 (by kernel_rfl) rfl)
    (chunk_stops 8 (by omega) (H + 2) (H + 3) b off q R m c a hln1 HM.out (by omega) hc hab w2 hbs hbn) (fun h k => h.trans k) ?hKb (Below.refl _ _) (fun _ => rfl)
    (fun pre W => Pu w b3n (H + 1) (H + 2) (H + 3) (.int .i64 (L : Int)) (.slice a m c) (.int .i64 (R : Int)) (outG L n l pre) W ∧ W.heap[b4n]? = some (.cells #[.int .i64 (n : Int)] 3 (0, 0))) (fun _ _ _ => False) ?hI ?hIx ⟨P0, P4⟩ ?a1 ?assign ?body ?done ?stop
  case hKb =>
    intro W l' o o' hl ho hc _
    have hne : ∀ k, k < w2.heap.size → (W.putObj l' o').heap[k]? = W.heap[k]? := fun k hk => World.putObj_heap_other (by omega)
    exact ⟨by simp, hne _ (by omega), hne _ (by omega)⟩
  case hI =>
    intro pre W W' row hs hg hr
    refine ⟨hs.1.turn hg (fun r e => ⟨Nat.le_trans BW.size (hr r e).1, (hr r e).2⟩), (hg.block _ (lt_heap hs.2) (fun e => ?_)).trans hs.2⟩
    obtain ⟨_, o, ho, hc⟩ := hr _ e.symm
    rw [hs.2] at ho
    cases ho
    cases hc
  case hIx =>
    intro c s W W' row hs hg hr
    exact hs
  case assign =>
    intro l x W K hK
    gi_wp2
    exact hK
  case body =>
    rintro l' pre x W ⟨hP, h4c⟩ hlt
    have hx := x.2
    obtain rfl := hab (by omega)
    have XN0 := Nl.part HA.out HM.out hx
    have hol : (outG L n l pre).length + n ≤ 4194304 := by
      rw [outG_length]
      have : pre.length * n ≤ 4096 * 6 := Nat.mul_le_mul (by omega) h4
      omega
    have hnx := outG_snoc L n l pre x
    obtain ⟨v, hv, hvw⟩ := hP.box
    obtain ⟨O, hO⟩ : ∃ O, O = outG L n l pre := ⟨_, rfl⟩
    rw [← hO] at hP hvw hol hnx
    obtain ⟨va, vc, rfl⟩ := hvw.form
    obtain ⟨ox, hox⟩ : ∃ o, o = off + x.1 * R := ⟨_, rfl⟩
    have XN := hide1 (fun X (hX : Below W.heap.size W X) => (XN0.below (hP.bel) (Nat.le_refl _)).below hX (Nat.le_refl _))
    rw [← hox] at XN ⊢
    have V8 := hide1 (fun X (hX : Below W.heap.size W X) => show X.cell? ⟨H + 1, 0, none⟩ = some (.slice va O.length vc) by rw [Lib.cell_of_heap ((hX.block _ (lt_heap hv)).trans hv)]; rfl)
    have V3 := hide1 (fun X (hX : Below W.heap.size W X) => show X.cell? ⟨b3n, 0, none⟩ = some (.int .i64 (L : Int)) by rw [Lib.cell_of_heap ((hX.block _ (lt_heap hP.wid)).trans hP.wid)]; rfl)
    have V4 := hide1 (fun X (hX : Below W.heap.size W X) => show X.cell? ⟨b4n, 0, none⟩ = some (.int .i64 (n : Int)) by rw [Lib.cell_of_heap ((hX.block _ (lt_heap h4c)).trans h4c)]; rfl)
    have Q8 := hide1 (fun W1 w8 (hX : Below W.heap.size W W1) (hg : W1.grownBy w8 (Value.slice va O.length vc).ownBlock) => show w8.heap[H + 1]? = some (.cells #[.slice va O.length vc] 22 (0, 0)) from by
      refine (hg.block _ (Nat.lt_of_lt_of_le (lt_heap hv) hX.size) (fun e => ?_)).trans ((hX.block _ (lt_heap hv)).trans hv)
      rcases hvw.2 with ⟨h0, _⟩ | ⟨g', cap, cur, h0, _, hh, _⟩
      · rw [h0] at e
        cases e
      · rw [h0] at e
        cases e
        rw [hv] at hh
        cases hh)
    have PU := hide1 hP
    have PB := hide1 hP.bel
    have HV := hide1 hv
    have VW := hide1 hvw
    have OL := hide1 hol
    have HNX := hide1 hnx
    have H4C := hide1 h4c
    have N4 := hide1 n4
    clear hab hb8 hbs hbn hg0 P0 P4 hz2 hbw BW D2 hP hv hvw hol hnx h4c hO hox XN0 hlt n4
    gi_upto_region 6 with (fail)
    refine region_round (F := [5, 6]) (S := fun X => Below W.heap.size W X) (by kernel_rfl) (by kernel_rfl) (by rintro ⟨_, _, hh⟩; exact hh) (Below.refl _ _).drew (fun hS => ?_)
    refine take_f 0 39 (.slice va O.length vc) [5, 6] rfl rfl (by kernel_rfl) (by kernel_rfl) (by kernel_rfl) (by kernel_rfl) (by kernel_rfl) (by kernel_rfl) (fun _ _ _ h => h) rfl (fun w hSw => by have hw := V8.out w hSw; go_simp) hS ?_
    try simp only [List.setIfInBounds_toArray, List.set_cons_zero, List.set_cons_succ]
    refine take_f 1 40 (.int .i64 (L : Int)) [4, 5, 6] rfl rfl (by kernel_rfl) (by kernel_rfl) (by kernel_rfl) (by kernel_rfl) (by kernel_rfl) (by kernel_rfl) (fun _ _ _ h => h) rfl (fun w hSw => by have hw := V3.out w hSw; go_simp) hS ?_
    try simp only [List.setIfInBounds_toArray, List.set_cons_zero, List.set_cons_succ]
    refine take_f 2 41 (.int .i64 (n : Int)) [4, 5, 6] rfl rfl (by kernel_rfl) (by kernel_rfl) (by kernel_rfl) (by kernel_rfl) (by kernel_rfl) (by kernel_rfl) (fun _ _ _ h => h) rfl (fun w hSw => by have hw := V4.out w hSw; go_simp) hS ?_
    try simp only [List.setIfInBounds_toArray, List.set_cons_zero, List.set_cons_succ]
    refine take_p 3 42 (.slice (some ⟨b, ox, none⟩) R R) rfl rfl (by kernel_rfl) (by kernel_rfl) (by kernel_rfl) (fun _ _ _ h => h) rfl (fun w => by go_simp) ?_
    try simp only [List.setIfInBounds_toArray, List.set_cons_zero, List.set_cons_succ]
    refine ready_f 4 (o := { dst := some 43, op := Op.call { callee := Callee.value (Operand.func 33), args := #[Operand.tmp 40, Operand.tmp 41, Operand.tmp 42], argTypes := #[3, 3, 22] }, type := 22, pos := "gilboa.go:49", after := #[{ on := 1, ground := Ground.data }, { on := 2, ground := Ground.data }, { on := 3, ground := Ground.data }], guard := none }) (by kernel_rfl) rfl (fun K hK => ?_)
    go_simp
    refine (sum_any L n _ R R _ _ h1 h2 h3 h4 (XN.out _ hS) (by omega)).mono ?_
    rintro e W1 ⟨rfl, hr1, hb1⟩
    have hB1 : Below W.heap.size W W1 := hS.trans hb1
    refine hK.out _ _ (fun _ _ => hB1) ?_
    clear hK K
    try simp only [Act.put, List.setIfInBounds_toArray, List.set_cons_zero, List.set_cons_succ]
    have NR := nl_row hr1
    rw [colL, tl_length] at NR
    refine ready_f 5 (o := { dst := some 44, op := Op.call { callee := Callee.builtin Builtin.append, args := #[Operand.tmp 39, Operand.tmp 43], argTypes := #[22, 22] }, type := 22, pos := "gilboa.go:49", after := #[{ on := 0, ground := Ground.data }, { on := 4, ground := Ground.data }, { on := 4, ground := Ground.chain }], guard := none }) (by kernel_rfl) rfl (fun K hK => ?_)
    rw [if_pos (by rfl)]
    refine wp_append_Wo (c := n) _ _ rfl (A := O) (B := w.heap.size) rfl rfl (VW.out.below hB1) NR ?_ ?_ ?_
    · have := OL.out; omega
    · have := hB1.size; have := PB.out.size; omega
    intro a' c' w8 ro8 gr8 wh8
    refine hK.out _ _ (fun h => absurd (by decide) h) ?_
    clear hK K
    try simp only [Act.put, List.setIfInBounds_toArray, List.set_cons_zero, List.set_cons_succ]
    have hst := PU.out.step HV.out hB1 ro8 gr8
    have hb8 : w8.heap[H + 1]? = some (.cells #[.slice va O.length vc] 22 (0, 0)) := Q8.out W1 w8 hB1 gr8
    have c8 : w8.cell? ⟨H + 1, 0, none⟩ = some (.slice va O.length vc) := by rw [Lib.cell_of_heap hb8]; rfl
    have f8 := Lib.frozen_of_heap hb8 0
    refine ready_f 6 (o := { dst := none, op := Op.store 22 (Operand.tmp 8) (Operand.tmp 44), type := 0, pos := "gilboa.go:49", after := #[{ on := 5, ground := Ground.data }, { on := 5, ground := Ground.chain }, { on := 0, ground := Ground.phase }, { on := 1, ground := Ground.phase }, { on := 2, ground := Ground.phase }, { on := 3, ground := Ground.phase }, { on := 4, ground := Ground.phase }, { on := 5, ground := Ground.phase }], guard := none }) (by kernel_rfl) rfl (fun K hK => ?_)
    go_simp
    refine hK.out _ _ (fun h => absurd (by decide) h) ?_
    clear hK K
    refine done_f (by kernel_rfl) ?_ _
    gi_wp2
    refine ⟨PU.out.keep hst.2, PU.out.kk hst.2, ?_, hst.2.same _ _ H4C.out N4.out (fun c e => by cases e)⟩
    show Pu _ _ _ _ _ _ _ _ (outG L n l (pre ++ [x])) _
    rw [HNX.out, ← HR.out]
    exact hst.1
  case done =>
    rintro D ys W hD hS ⟨hI, _⟩ hK
    rw [outG_all l hS, ← HQ.out] at hI
    obtain ⟨v, hv, hvw⟩ := hI.box
    obtain ⟨va, vc, rfl⟩ := hvw.form
    rw [tl_length] at hv hvw
    have hvc : W.cell? ⟨H + 1, 0, none⟩ = some (.slice va Q vc) := by rw [Lib.cell_of_heap hv]; rfl
    have BWs := BW.size
    clear hab hb8 hbs hbn hg0 P0 hz2 hbw BW P4 D2
    gi_wp2
    refine ⟨by simp, .inl ⟨_, _, rfl, run_takeDeferred hK, ?_⟩⟩
    refine ⟨_, results_tmp2 rfl _ _ _, va, vc, rfl, Wo.rd (B := w.heap.size) (c := vc) (own_kept hvw fun g c _ hh => (World.putObj_heap_other (fun e => ?_)).trans hh), hI.bel.grown (grownBy_putObj' W D (.deferred none)) hI.bel.size (fun k hk => by cases hk; omega)⟩
    subst e
    rw [hK] at hh
    cases hh
  case stop =>
    rintro D c pre W _ _ h _
    exact h.elim
end Go.Proofs.Ytgcbdjmlhjbacaa.Gi
