/- The program's Spread, where all may be. -/
import Derived.Test.YtgcbdjmlhjbacaaJ19
namespace Go.Proofs.Ytgcbdjmlhjbacaa.Gi
open Go.RowKit Go.Shelf Ri
open Go.Proofs.Ytgcbdjmlhjbacaa.St (take_f take_p skip_p ready_f ready2_f done_f)
set_option maxRecDepth 100000
attribute [local go_sem] Oper.semAt_some Ri.not_any Ri.mf_any part

theorem make_empty (m : Nat) (hm : m ≤ 4194304) (w : World) : (Instr.makeSlice 22 (.int .i64 0) (.int .i64 (m : Int))).run Try.prog w = .ok (.slice (some ⟨w.heap.size, 0, none⟩) 0 m) (w.alloc (wrow (List.replicate m 0))) := by
  have hi : (Try.prog.info? 44).map (fun i => (i.zero, i.size, i.bytes)) = some (some (.int .u64 0), 1, 8) := by kernel_rfl
  obtain ⟨i0, hi, hz0, hz1, hz2⟩ := info_parts hi
  have h := run_make (P := Try.prog) w 22 44 i0 _ Try.underlying22 hi hz0 .i64 .i64 (0 : Int) (m : Int) (by omega) (by omega) (by rw [hz2]; omega) (by omega)
  rw [h, hz1]
  have e : madeCells (Value.int IntKind.u64 0).cells ((m : Int).toNat * 1) = (u64s (List.replicate m 0)).toArray := by
    apply Array.ext
    · simp [madeCells, u64s]
    · intro j h1 h2
      simp [madeCells, u64s, Value.cells, Nat.mod_one]
  rw [e]
  rfl
theorem wo_made {w : World} {B g m : Nat} (hB : B ≤ g) (hm : m ≤ 4194304) (h : w.heap[g]? = some (wrow (List.replicate m 0))) : Wo B w (.slice (some ⟨g, 0, none⟩) 0 m) [] :=
  ⟨rfl, .inr ⟨g, m, _, rfl, hB, h, Nat.zero_le _, by unfold maxLen; omega, by simp [u64s], by simp [u64s]⟩⟩

/- what comes of a row: it times 2 to the k, for each bit -/
def blkF (L n : Nat) (l : List Nat) (i t : Nat) : Nat := at0 l (i * n + t % n) * 2 ^ (t / n) % 2 ^ L
def spF (L n : Nat) (l : List Nat) (t : Nat) : Nat := at0 l (t / n / L * n + t % n) * 2 ^ (t / n % L) % 2 ^ L
def outL (L n : Nat) (l : List Nat) {q : Nat} (pre : List (Ix q)) : List Nat := pre.flatMap fun x => tl (blkF L n l x.1) (L * n)
theorem outL_snoc (L n : Nat) (l : List Nat) {q : Nat} (pre : List (Ix q)) (x : Ix q) : outL L n l (pre ++ [x]) = outL L n l pre ++ tl (blkF L n l x.1) (L * n) := by simp [outL]
theorem outL_length (L n : Nat) (l : List Nat) {q : Nat} (pre : List (Ix q)) : (outL L n l pre).length = pre.length * (L * n) := by
  induction pre with
  | nil => simp [outL]
  | cons x pre ih => rw [outL, List.flatMap_cons, List.length_append, ← outL, ih, tl_length, List.length_cons, Nat.succ_mul, Nat.add_comm]
theorem flat_map {α β : Type} (f : β → List Nat) (g : α → β) (l : List α) : l.flatMap (fun x => f (g x)) = (l.map g).flatMap f := by
  induction l with
  | nil => rfl
  | cons x l ih => simp [ih]
theorem flat_range (f : Nat → Nat → Nat) (F : Nat → Nat) (s q : Nat) (h : ∀ i t, i < q → t < s → F (i * s + t) = f i t) : (List.range q).flatMap (fun i => tl (f i) s) = tl F (q * s) := by
  induction q with
  | zero => rw [Nat.zero_mul]; rfl
  | succ q ih =>
    rw [List.range_succ, List.flatMap_append, ih (fun i t hi ht => h i t (by omega) ht), Nat.succ_mul, tl_add, List.flatMap_singleton]
    congr 1
    exact tl_congr fun t ht => (h q t (by omega) ht).symm
theorem place_div {j n i : Nat} (h : i < n) : (j * n + i) / n = j := by
  rw [Nat.add_comm, Nat.add_mul_div_right _ _ (by omega), Nat.div_eq_of_lt h, Nat.zero_add]
theorem place_mod {j n i : Nat} (h : i < n) : (j * n + i) % n = i := by
  rw [Nat.add_comm, Nat.add_mul_mod_self_right, Nat.mod_eq_of_lt h]
theorem sp_blk {L n : Nat} (l : List Nat) (h3 : 1 ≤ n) (i t : Nat) (ht : t < L * n) : spF L n l (i * (L * n) + t) = blkF L n l i t := by
  have h1 : t / n < L := Nat.div_lt_of_lt_mul (by rw [Nat.mul_comm]; exact ht)
  have h2 : (i * (L * n) + t) / n = i * L + t / n := by rw [← Nat.mul_assoc, Nat.add_comm, Nat.add_mul_div_right _ _ (by omega), Nat.add_comm]
  have h4 : (i * (L * n) + t) % n = t % n := by rw [← Nat.mul_assoc, Nat.add_comm, Nat.add_mul_mod_self_right]
  rw [spF, blkF, h2, h4, place_div h1, place_mod h1]
theorem outL_all {L n q : Nat} (l : List Nat) (h3 : 1 ≤ n) {ys : List (Ix q)} (h : ys.map (·.1) = List.range q) : outL L n l ys = tl (spF L n l) (q * (L * n)) := by
  rw [outL, flat_map (fun i => tl (blkF L n l i) (L * n)) (fun x : Ix q => x.1), h]
  exact flat_range _ _ _ _ fun i t _ ht => sp_blk l h3 i t ht
theorem blk_succ {L n : Nat} (l : List Nat) (i k : Nat) (_h3 : 1 ≤ n) : tl (blkF L n l i) ((k + 1) * n) = tl (blkF L n l i) (k * n) ++ tl (fun j => at0 l (i * n + j) * 2 ^ k % 2 ^ L) n := by
  rw [Nat.succ_mul, tl_add]
  congr 1
  exact tl_congr fun j hj => by rw [blkF, place_div hj, place_mod hj]

/- a part of a list -/
theorem Nl.part {w : World} {b off m q n : Nat} {l : List Nat} (h : Nl w m (some ⟨b, off, none⟩) l) (hm : m = q * n) {i : Nat} (hi : i < q) : Nl w n (some ⟨b, off + i * n, none⟩) (tl (fun j => at0 l (i * n + j)) n) := by
  refine ⟨tl_length _ _, fun j x hj => ⟨b, off + i * n, rfl, ?_⟩⟩
  have hjn := (List.getElem?_eq_some_iff.1 hj).1
  rw [tl_length] at hjn
  rw [tl_get hjn] at hj
  obtain rfl := Option.some.inj hj
  have hlt : i * n + j < m := by
    have h1 : (i + 1) * n ≤ q * n := Nat.mul_le_mul_right n hi
    rw [Nat.succ_mul] at h1
    omega
  obtain ⟨g, o, e, hc⟩ := h.val hlt
  cases e
  rw [Nat.add_assoc]
  exact hc

theorem allocs4 (w : World) (A B C D : Obj) {H : Nat} (h : w.heap.size = H) : ((((w.alloc A).alloc B).alloc C).alloc D).heap[H]? = some A ∧ ((((w.alloc A).alloc B).alloc C).alloc D).heap[H + 1]? = some B ∧ ((((w.alloc A).alloc B).alloc C).alloc D).heap[H + 2]? = some C ∧ ((((w.alloc A).alloc B).alloc C).alloc D).heap[H + 3]? = some D ∧ ((((w.alloc A).alloc B).alloc C).alloc D).heap.size = H + 4 ∧ Below H w ((((w.alloc A).alloc B).alloc C).alloc D) := by
  subst h
  have h0 := heap_alloc_new w A
  have h1 := heap_alloc_new (w.alloc A) B
  have h2 := heap_alloc_new ((w.alloc A).alloc B) C
  have h3 := heap_alloc_new (((w.alloc A).alloc B).alloc C) D
  simp only [World.size_alloc] at h1 h2 h3
  have hb := (((below1 (w := w) A).alloc (by simp) B).alloc (by simp; omega) C).alloc (by simp; omega) D
  refine ⟨?_, ?_, ?_, h3, by simp, hb⟩
  · exact (Below.heap_alloc _ _ _ (by simp; omega)).trans ((Below.heap_alloc _ _ _ (by simp; omega)).trans ((Below.heap_alloc _ _ _ (by simp)).trans h0))
  · exact (Below.heap_alloc _ _ _ (by simp)).trans ((Below.heap_alloc _ _ _ (by simp)).trans h1)
  · exact (Below.heap_alloc _ _ _ (by simp)).trans h2

set_option maxHeartbeats 8000000 in
theorem spread_good (L n q m c : Nat) (a : Option Addr) (l : List Nat) (w : World) (h1 : 1 ≤ L) (h2 : L ≤ 64) (h3 : 1 ≤ n) (h4 : n ≤ 6) (hm : m = q * n) (hmx : m ≤ 4096) (hc : m ≤ c) (ha : Nl w m a l) (hs : Small l) (hf : fitsAll (L : Int) l = true) :
    Calls Try.prog 11 #[.int .i64 (L : Int), .int .i64 (n : Int), .slice a m c] w fun e w' => ∃ a1 c1, e = .returned (.tuple #[.slice a1 (q * (L * n)) c1, .int .i64 0]) ∧ Nl w' (q * (L * n)) a1 (tl (spF L n l) (q * (L * n))) ∧ Below w.heap.size w w' := by
  have mixed := St.mixed
  have HA := hide1 ha
  have HM := hide1 hm
  have kN := fun w => hide1 (side_any (n : Int) w)
  rw [okN_of h3 h4] at kN
  have kF : Hid (∀ W, Below w.heap.size w W → Calls Try.prog 25 #[.int .i64 (L : Int), .slice a m c] W fun e w' => e = .returned (.bool true) ∧ ∃ q, w' = W.drewN q) := fun W hW => by
    have h := are_any (L : Int) W m c a l (ha.below hW (Nat.le_refl _)) hs (by omega)
    rw [okW_of h1 h2, hf] at h
    exact h
  have hq : L * m ≤ 262144 := Nat.le_trans (Nat.mul_le_mul h2 hmx) (by decide)
  have e1 : IntKind.i64.wrap ((L : Int) * (m : Int)) = ((L * m : Nat) : Int) := by rw [← Int.natCast_mul, wrap_i64_nat (by omega)]
  have em : (m : Int).tmod (n : Int) = 0 := by rw [hm]; exact (congrArg (Nat.cast (R := Int)) (Nat.mul_mod_left q n))
  have hn0 : (n : Int) ≠ 0 := by omega
  have hn1 : ¬ n = 0 := by omega
  obtain ⟨Q, hQ⟩ : ∃ Q, Q = L * m := ⟨_, rfl⟩
  rw [← hQ] at e1 hq
  have hmk := make_empty Q (by omega)
  clear ha hm hQ
  refine (callsIn_wide (n := 9)).1 ?_
  refine callsIn_of_wp_marks Try.func11 rfl trivial ?_ rfl
  simp only [Try.ntmps11, List.size_toArray, List.length_cons, List.length_nil, Nat.reduceAdd, Nat.reduceSub, Array.replicate_succ, Array.replicate_zero, List.push_toArray, List.append_toArray, List.nil_append, List.cons_append]
  gi_wp2_with fail
  generalize hW0 : World.alloc w _ = W0
  have b3 : W0.heap[w.heap.size]? = some (.cells #[.int .i64 (L : Int)] 3 (0, 0)) := by rw [← hW0]; exact heap_alloc_new _ _
  have B0 : Below w.heap.size w W0 := by rw [← hW0]; exact below1 _
  have s0 : W0.heap.size = w.heap.size + 1 := by rw [← hW0]; simp
  have c3 : ∀ X, Below W0.heap.size W0 X → X.cell? ⟨w.heap.size, 0, none⟩ = some (.int .i64 (L : Int)) := fun X hX => by rw [Lib.cell_of_heap ((hX.block _ (lt_heap b3)).trans b3)]; rfl
  have c30 := c3 W0 (Below.refl _ _)
  clear hW0
  refine ⟨trivial, callsIn_wide.2 ((kN _).out.mono ?_)⟩
  rintro e w0 ⟨rfl, he0⟩
  obtain rfl := he0.symm
  clear he0
  gi_wp2_with fail
  refine ⟨trivial, callsIn_wide.2 ((kF.out _ B0).mono ?_)⟩
  rintro e w1 ⟨rfl, q1, hq1⟩
  have D1 : Below W0.heap.size W0 w1 := by rw [hq1]; exact below_drewN (Below.refl _ _) q1
  obtain ⟨H, s1⟩ : ∃ H, w1.heap.size = H := ⟨_, rfl⟩
  have sH : H = w.heap.size + 1 := by rw [← s1, hq1]; exact s0
  have c31 := c3 _ D1
  obtain ⟨b3n, hb3n⟩ : ∃ g, g = w.heap.size := ⟨_, rfl⟩
  rw [← hb3n] at c31
  rw [← hb3n]
  have HB3 := hide1 hb3n
  have SH := hide1 sH
  clear hq1 c30 hb3n sH
  gi_wp2_with fail
  refine ⟨trivial, callsIn_wide.2 ((chunk_any a m c n h3 _).mono ?_)⟩
  rintro e w2 ⟨rfl, hw2⟩
  gi_wp2_with fail
  have hb3n := HB3.out
  have sH := SH.out
  obtain ⟨hg0, hb8, hbs, hbn, hz2, hbw⟩ := allocs4 w1 _ _ _ _ s1
  rw [← hw2] at hg0 hb8 hbs hbn hz2 hbw ⊢
  clear hw2
  obtain ⟨b, off, hab⟩ : ∃ b off, 0 < q → a = some ⟨b, off, none⟩ := by
    by_cases h0 : 0 < q
    · obtain ⟨g, o, e, _⟩ := HA.out.val (k := 0) (by rw [HM.out]; exact Nat.mul_pos h0 h3)
      exact ⟨g, o, fun _ => e⟩
    · exact ⟨0, 0, fun h => absurd h h0⟩
  have BW : Below w.heap.size w w2 := (B0.trans (D1.mono B0.size)).trans (hbw.mono (by omega))
  have P0 : Pu w b3n (H + 1) (H + 2) (H + 3) (.int .i64 (L : Int)) (.slice a m c) (.int .i64 (n : Int)) [] w2 := by
    refine ⟨⟨_, hb8, wo_made (by omega) (by omega) hg0⟩, ?_, hbs, hbn, BW, by omega, by omega, by omega, by omega⟩
    rw [hb3n]
    exact (hbw.block _ (by omega)).trans ((D1.block _ (by omega)).trans b3)
  clear hb3n sH
  refine wpIn_rangeFunc_ownG rfl (by omega) (gf := 42) (lb := #[.pointer (some ⟨H + 2, 0, none⟩), .pointer (some ⟨H + 3, 0, none⟩)]) rfl trivial (enters_of Try.func42 (by kernel_rfl) rfl)
    (chunk_stops 8 (by omega) (H + 2) (H + 3) b off q n m c a h3 HM.out (by omega) hc hab w2 hbs hbn) (fun h k => h.trans k) ?hKb (Below.refl _ _) (fun _ => rfl)
    (fun pre => Pu w b3n (H + 1) (H + 2) (H + 3) (.int .i64 (L : Int)) (.slice a m c) (.int .i64 (n : Int)) (outL L n l pre)) (fun _ _ _ => False) ?hI ?hIx P0 ?a1 ?assign ?body ?done ?stop
  case hKb =>
    intro W l' o o' hl ho hc _
    have hne : ∀ k, k < w2.heap.size → (W.putObj l' o').heap[k]? = W.heap[k]? := fun k hk => World.putObj_heap_other (by omega)
    exact ⟨by simp, hne _ (by omega), hne _ (by omega)⟩
  case hI =>
    intro pre W W' row hs hg hr
    exact hs.turn hg (fun r e => ⟨Nat.le_trans BW.size (hr r e).1, (hr r e).2⟩)
  case hIx =>
    intro c s W W' row hs hg hr
    exact hs
  case assign =>
    intro l x W K hK
    gi_wp2
    exact hK
  case body =>
    rintro l' pre x W hP hlt
    have hx := x.2
    obtain rfl := hab (by omega)
    have hwid : W.cell? ⟨b3n, 0, none⟩ = some (.int .i64 (L : Int)) := by rw [Lib.cell_of_heap hP.wid]; rfl
    have XN0 := hide1 (Nl.part HA.out HM.out hx)
    have LP := hide1 (outL_length L n l pre)
    have HMX := hide1 hmx
    clear hab hb8 hbs hbn hg0 P0 hz2 hbw BW
    gi_wp2
    gi_loopw [37] (fun v37 wr => ∃ k : Nat, k ≤ L ∧ v37 = .int .i64 (k : Int) ∧ Pu w b3n (H + 1) (H + 2) (H + 3) (.int .i64 (L : Int)) (.slice (some ⟨b, off, none⟩) m c) (.int .i64 (n : Int)) (outL L n l pre ++ tl (blkF L n l x.1) (k * n)) wr ∧ Ke (H + 1) W wr) (fun v37 _ => L - (intOf v37).toNat)
    case atStart => exact ⟨0, Nat.zero_le _, rfl, by rw [Nat.zero_mul, tl_zero, List.append_nil]; exact hP, Ke.refl _ _⟩
    case round =>
      obtain ⟨k, hk, rfl, hp, hke⟩ := hrel
      by_cases hkl : k < L
      · have hsh : IntKind.u64.wrap (2 ^ k) = ((2 ^ k : Nat) : Int) := wrap_pow (by omega)
        obtain ⟨v, hv, hvw⟩ := hp.box
        have hbk := blk_succ (L := L) l x.1 k h3
        have hro : tl (fun j => fit (L : Int) (2 ^ k * at0 (tl (fun j => at0 l (x.1 * n + j)) n) j)) n = tl (fun j => at0 l (x.1 * n + j) * 2 ^ k % 2 ^ L) n := tl_congr fun j hj => by rw [fit_nat h1 h2, tl_at hj, Nat.mul_comm]
        obtain ⟨O, hO⟩ : ∃ O, O = outL L n l pre ++ tl (blkF L n l x.1) (k * n) := ⟨_, rfl⟩
        have hOl : O.length + n ≤ 4194304 := by
          rw [hO, List.length_append, LP.out, tl_length]
          have t1 : pre.length * (L * n) ≤ 4096 * (64 * 6) := Nat.mul_le_mul (by have := HM.out; have := HMX.out; have : q * 1 ≤ q * n := Nat.mul_le_mul_left q h3; omega) (Nat.mul_le_mul h2 h4)
          have t2 : k * n ≤ 64 * 6 := Nat.mul_le_mul (by omega) h4
          omega
        have hnx : outL L n l pre ++ tl (blkF L n l x.1) ((k + 1) * n) = O ++ tl (fun j => at0 l (x.1 * n + j) * 2 ^ k % 2 ^ L) n := by rw [hbk, hO, List.append_assoc]
        rw [← hO] at hp hvw
        obtain ⟨va, vc, rfl⟩ := hvw.form
        obtain ⟨ox, hox⟩ : ∃ o, o = off + x.1 * n := ⟨_, rfl⟩
        have XN := hide1 (fun X (hX : Below wr.heap.size wr X) => (XN0.out.below (hp.bel) (Nat.le_refl _)).below hX (Nat.le_refl _))
        rw [← hox] at XN ⊢
        have V8 := hide1 (fun X (hX : Below wr.heap.size wr X) => show X.cell? ⟨H + 1, 0, none⟩ = some (.slice va O.length vc) by rw [Lib.cell_of_heap ((hX.block _ (lt_heap hv)).trans hv)]; rfl)
        have V3 := hide1 (fun X (hX : Below wr.heap.size wr X) => show X.cell? ⟨b3n, 0, none⟩ = some (.int .i64 (L : Int)) by rw [Lib.cell_of_heap ((hX.block _ (lt_heap hp.wid)).trans hp.wid)]; rfl)
        have Q8 := hide1 (fun W1 w8 (hX : Below wr.heap.size wr W1) (hg : W1.grownBy w8 (Value.slice va O.length vc).ownBlock) => show w8.heap[H + 1]? = some (.cells #[.slice va O.length vc] 22 (0, 0)) from by
          refine (hg.block _ (Nat.lt_of_lt_of_le (lt_heap hv) hX.size) (fun e => ?_)).trans ((hX.block _ (lt_heap hv)).trans hv)
          rcases hvw.2 with ⟨h0, _⟩ | ⟨g', cap, cur, h0, _, hh, _⟩
          · rw [h0] at e
            cases e
          · rw [h0] at e
            cases e
            rw [hv] at hh
            cases hh)
        have PU := hide1 hp
        have PB := hide1 hp.bel
        have HV := hide1 hv
        have VW := hide1 hvw
        have HKE := hide1 hke
        have OL := hide1 hOl
        have HNX := hide1 hnx
        have HRO := hide1 hro
        have HP0 := hide1 hP
        obtain ⟨K2, hK2⟩ : ∃ K, K = 2 ^ k := ⟨_, rfl⟩
        rw [← hK2] at hsh HRO HNX
        clear hp hv hvw hke hOl hnx hro hO hbk hox hK2 hP LP XN0 HMX hlt hwid
        gi_upto_region 9 with (fail)
        refine region_round (F := [6, 7]) (S := fun X => Below wr.heap.size wr X) (by kernel_rfl) (by kernel_rfl) (by rintro ⟨_, _, hh⟩; exact hh) (Below.refl _ _).drew (fun hS => ?_)
        refine take_f 0 40 (.slice va O.length vc) [6, 7] rfl rfl (by kernel_rfl) (by kernel_rfl) (by kernel_rfl) (by kernel_rfl) (by kernel_rfl) (by kernel_rfl) (fun _ _ _ h => h) rfl (fun w hSw => by have hw := V8.out w hSw; go_simp) hS ?_
        try simp only [List.setIfInBounds_toArray, List.set_cons_zero, List.set_cons_succ]
        refine take_f 1 41 (.int .i64 (L : Int)) [5, 6, 7] rfl rfl (by kernel_rfl) (by kernel_rfl) (by kernel_rfl) (by kernel_rfl) (by kernel_rfl) (by kernel_rfl) (fun _ _ _ h => h) rfl (fun w hSw => by have hw := V3.out w hSw; go_simp) hS ?_
        try simp only [List.setIfInBounds_toArray, List.set_cons_zero, List.set_cons_succ]
        refine take_p 2 42 (.int .i64 (k : Int)) rfl rfl (by kernel_rfl) (by kernel_rfl) (by kernel_rfl) (fun _ _ _ h => h) rfl (fun w => by go_simp) ?_
        try simp only [List.setIfInBounds_toArray, List.set_cons_zero, List.set_cons_succ]
        refine take_p 3 43 (.int .u64 (K2 : Int)) rfl rfl (by kernel_rfl) (by kernel_rfl) (by kernel_rfl) (fun _ _ _ h => h) rfl (fun w => by go_simp) ?_
        try simp only [List.setIfInBounds_toArray, List.set_cons_zero, List.set_cons_succ]
        refine take_p 4 44 (.slice (some ⟨b, ox, none⟩) n n) rfl rfl (by kernel_rfl) (by kernel_rfl) (by kernel_rfl) (fun _ _ _ h => h) rfl (fun w => by go_simp) ?_
        try simp only [List.setIfInBounds_toArray, List.set_cons_zero, List.set_cons_succ]
        refine ready_f 5 (o := { dst := some 45, op := Op.call { callee := Callee.value (Operand.func 32), args := #[Operand.tmp 41, Operand.tmp 43, Operand.tmp 44], argTypes := #[3, 44, 22] }, type := 22, pos := "gilboa.go:36", after := #[{ on := 1, ground := Ground.data }, { on := 3, ground := Ground.data }, { on := 4, ground := Ground.data }], guard := none }) (by kernel_rfl) rfl (fun K hK => ?_)
        go_simp
        refine (scale_any (L : Int) K2 _ n n _ _ (XN.out _ hS) (by omega)).mono ?_
        rintro e W1 ⟨rfl, hr1, hb1⟩
        have hB1 : Below wr.heap.size wr W1 := hS.trans hb1
        refine hK.out _ _ (fun _ _ => hB1) ?_
        clear hK K
        try simp only [Act.put, List.setIfInBounds_toArray, List.set_cons_zero, List.set_cons_succ]
        have NR := nl_row hr1
        rw [told_length, told_tl, HRO.out] at NR
        refine ready_f 6 (o := { dst := some 46, op := Op.call { callee := Callee.builtin Builtin.append, args := #[Operand.tmp 40, Operand.tmp 45], argTypes := #[22, 22] }, type := 22, pos := "gilboa.go:36", after := #[{ on := 0, ground := Ground.data }, { on := 5, ground := Ground.data }, { on := 5, ground := Ground.chain }], guard := none }) (by kernel_rfl) rfl (fun K hK => ?_)
        rw [if_pos (by rfl)]
        refine wp_append_Wo (c := n) _ _ rfl (A := O) (B := w.heap.size) rfl rfl (VW.out.below hB1) NR ?_ ?_ ?_
        · have := OL.out; omega
        · have := hB1.size; have := PB.out.size; omega
        intro a' c' w8 ro8 gr8 wh8
        refine hK.out _ _ (fun h => absurd (by decide) h) ?_
        clear hK K
        try simp only [Act.put, List.setIfInBounds_toArray, List.set_cons_zero, List.set_cons_succ]
        have hst := PU.out.step HV.out hB1 ro8 gr8
        have hb8 : w8.heap[H + 1]? = some (.cells #[.slice va O.length vc] 22 (0, 0)) := Q8 W1 w8 hB1 gr8
        have c8 : w8.cell? ⟨H + 1, 0, none⟩ = some (.slice va O.length vc) := by rw [Lib.cell_of_heap hb8]; rfl
        have f8 := Lib.frozen_of_heap hb8 0
        refine ready_f 7 (o := { dst := none, op := Op.store 22 (Operand.tmp 8) (Operand.tmp 46), type := 0, pos := "gilboa.go:36", after := #[{ on := 6, ground := Ground.data }, { on := 6, ground := Ground.chain }, { on := 0, ground := Ground.phase }, { on := 1, ground := Ground.phase }, { on := 2, ground := Ground.phase }, { on := 3, ground := Ground.phase }, { on := 4, ground := Ground.phase }, { on := 5, ground := Ground.phase }, { on := 6, ground := Ground.phase }], guard := none }) (by kernel_rfl) rfl (fun K hK => ?_)
        go_simp
        refine hK.out _ _ (fun h => absurd (by decide) h) ?_
        clear hK K
        refine done_f (by kernel_rfl) ?_ _
        gi_wp2
        go_roundw
        case rel => exact ⟨k + 1, by omega, by go_num, by rw [HNX.out]; exact hst.1, HKE.out.trans hst.2⟩
        case measure => simp [intOf]; omega
      · obtain rfl : k = L := by omega
        gi_wp2
        exact ⟨hP.keep hke, hP.kk hke, by show Pu _ _ _ _ _ _ _ _ (outL _ n l (pre ++ [x])) wr; rw [outL_snoc]; exact hp⟩
  case done =>
    rintro D ys W hD hS hI hK
    rw [outL_all l h3 hS] at hI
    obtain ⟨v, hv, hvw⟩ := hI.box
    obtain ⟨va, vc, rfl⟩ := hvw.form
    rw [tl_length] at hv hvw
    have hvc : W.cell? ⟨H + 1, 0, none⟩ = some (.slice va (q * (L * n)) vc) := by rw [Lib.cell_of_heap hv]; rfl
    have BWs := BW.size
    clear hab hb8 hbs hbn hg0 P0 hz2 hbw BW
    gi_wp2
    refine ⟨by simp, .inl ⟨_, _, rfl, run_takeDeferred hK, ?_⟩⟩
    refine ⟨_, results_tmp2 rfl _ _ _, va, vc, rfl, Wo.rd (B := w.heap.size) (c := vc) (own_kept hvw fun g c _ hh => (World.putObj_heap_other (fun e => ?_)).trans hh), hI.bel.grown (grownBy_putObj' W D (.deferred none)) hI.bel.size (fun k hk => by cases hk; omega)⟩
    subst e
    rw [hK] at hh
    cases hh
  case stop =>
    rintro D c pre W _ _ h _
    exact h.elim
end Go.Proofs.Ytgcbdjmlhjbacaa.Gi
