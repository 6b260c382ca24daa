/- The walk of StreamOrder. -/
import Derived.Test.YtceemkjmmfkmdaaJ15
namespace Go.Proofs.Ytceemkjmmfkmdaa.St
open Go.RowKit
set_option maxRecDepth 100000
attribute [local go_sem] not_any

/- what came of a plan, where just some chunks came -/
def stF (P : Nat → List Nat) (N : Nat) (D : Nat → Bool) : Sts := (List.range N).map fun j => if D j then some (P j) else none
theorem stF_length (P : Nat → List Nat) (N : Nat) (D : Nat → Bool) : (stF P N D).length = N := by simp [stF]
theorem stF_get {P : Nat → List Nat} {N k : Nat} {D : Nat → Bool} (h : k < N) : (stF P N D)[k]? = some (if D k then some (P k) else none) := by rw [stF, List.getElem?_map, List.getElem?_range h]; rfl
theorem stF_congr {P : Nat → List Nat} {N : Nat} {D E : Nat → Bool} (h : ∀ j, j < N → D j = E j) : stF P N D = stF P N E := List.map_congr_left fun j hj => by rw [h j (List.mem_range.1 hj)]
theorem stF_none (P : Nat → List Nat) (N : Nat) : stF P N (fun _ => false) = List.replicate N none := by
  apply List.ext_getElem?
  intro j
  by_cases hj : j < N
  · rw [stF_get hj, List.getElem?_replicate, if_pos hj]; rfl
  · rw [List.getElem?_eq_none (by rw [stF_length]; omega), List.getElem?_replicate, if_neg hj]
theorem stF_set {P : Nat → List Nat} {N k : Nat} {D E : Nat → Bool} (h : ∀ j, j < N → E j = (D j || decide (j = k))) : (stF P N D).set k (some (P k)) = stF P N E := by
  apply List.ext_getElem?
  intro j
  by_cases hj : j < N
  · rw [stF_get hj, h j hj]
    by_cases hk : k = j
    · subst hk
      rw [List.getElem?_set_self (by rw [stF_length]; exact hj)]
      simp
    · rw [List.getElem?_set_ne hk, stF_get hj]
      have : decide (j = k) = false := decide_eq_false (fun h => hk h.symm)
      rw [this, Bool.or_false]
  · rw [List.getElem?_eq_none (by rw [List.length_set, stF_length]; omega), List.getElem?_eq_none (by rw [stF_length]; omega)]
theorem stF_add {P : Nat → List Nat} {F m k : Nat} {D : Nat → Bool} (h : k < pn m) (hD : D k = false) (hP : (P k).length = min 512 (m - 512 * k)) : addC (pl F m) 1 (stF P (pn m) D) (k : Int) (P k).length = 0 := by
  rw [addC_nat (by rw [pl_length]; exact h), List.getD_eq_getElem?_getD, stF_get h, hD, List.getD_eq_getElem?_getD, pl_get h, if_neg (by simp), if_neg]
  intro hn
  apply hn
  show (((P k).length : Nat) : Int) = ((1 : Nat) : Int) * ((min 512 (m - 512 * k) : Nat) : Int)
  rw [hP]
  omega
theorem stF_all {P : Nat → List Nat} {m : Nat} (hP : ∀ k, k < pn m → (P k).length = min 512 (m - 512 * k)) : cntN (stF P (pn m) (fun _ => true)) = 0 ∧ (joinL (stF P (pn m) (fun _ => true))).length = m := by
  have h : ∀ k, k ≤ pn m → cntN (stF P k (fun _ => true)) = 0 ∧ (joinL (stF P k (fun _ => true))).length = sm m k := by
    intro k
    induction k with
    | zero => intro _; exact ⟨rfl, by rw [sm_zero]; rfl⟩
    | succ k ih =>
      intro hk
      obtain ⟨h1, h2⟩ := ih (by omega)
      have e : stF P (k + 1) (fun _ => true) = stF P k (fun _ => true) ++ [some (P k)] := by rw [stF, List.range_succ, List.map_append]; rfl
      rw [e]
      refine ⟨?_, ?_⟩
      · have hc : ∀ st : Sts, cntN (st ++ [some (P k)]) = cntN st := by
          intro st
          induction st with
          | nil => rfl
          | cons o st ih => rw [List.cons_append, cntN, cntN, ih]
        rw [hc, h1]
      · rw [joinL, List.flatMap_append, ← joinL, List.length_append, h2, sm_lt (by omega)]
        have := sm_succ (n := m) (k := k) (by omega)
        rw [← this, ← hP k (by omega)]
        simp
  have := h (pn m) (Nat.le_refl _)
  rwa [sm_all] at this

/- who came behind so many steps: in order, and turned -/
def Da (i j : Nat) : Bool := decide (j < i)
def Db (N t i j : Nat) : Bool := decide (∃ i', i' < i ∧ (i' + t) % N = j)
theorem Da_step (i j : Nat) : Da (i + 1) j = (Da i j || decide (j = i)) := by
  unfold Da
  rw [Bool.eq_iff_iff]
  simp
  omega
theorem Db_step (N t i j : Nat) : Db N t (i + 1) j = (Db N t i j || decide (j = (i + t) % N)) := by
  unfold Db
  rw [Bool.eq_iff_iff]
  simp only [decide_eq_true_eq, Bool.or_eq_true]
  constructor
  · rintro ⟨i', h1, h2⟩
    by_cases h : i' = i
    · subst h; exact .inr h2.symm
    · exact .inl ⟨i', by omega, h2⟩
  · rintro (⟨i', h1, h2⟩ | h)
    · exact ⟨i', by omega, h2⟩
    · exact ⟨i, by omega, h.symm⟩
theorem mod_inj {N t i j : Nat} (hi : i < N) (hj : j < N) (h : (i + t) % N = (j + t) % N) : i = j := by
  have h1 := Nat.div_add_mod (i + t) N
  have h2 := Nat.div_add_mod (j + t) N
  rw [h] at h1
  rcases Nat.lt_trichotomy ((i + t) / N) ((j + t) / N) with h3 | h3 | h3
  · have := Nat.mul_le_mul_left N h3
    rw [Nat.mul_succ] at this
    omega
  · rw [h3] at h1; omega
  · have := Nat.mul_le_mul_left N h3
    rw [Nat.mul_succ] at this
    omega
theorem Db_new {N t i : Nat} (hi : i < N) : Db N t i ((i + t) % N) = false := decide_eq_false (by
  rintro ⟨i', h1, h2⟩
  have := mod_inj (by omega) hi h2
  omega)
theorem Db_all {N t j : Nat} (hj : j < N) : Db N t N j = true := decide_eq_true (by
  have hN : 0 < N := by omega
  have ht := Nat.mod_lt t hN
  refine ⟨(j + (N - t % N)) % N, Nat.mod_lt _ hN, ?_⟩
  rw [Nat.mod_add_mod, Nat.add_assoc, show N - t % N + t = N * (t / N + 1) by
    have := Nat.div_add_mod t N
    rw [Nat.mul_succ]
    omega, Nat.add_mul_mod_self_left, Nat.mod_eq_of_lt hj])
theorem Da_all {N j : Nat} (hj : j < N) : Da N j = true := decide_eq_true hj

theorem order_else (F n L c t : Nat) (a : Option Addr) (w : World) (hn : n < 65536) (h : L = 0 ∨ 600 < L ∨ 33554432 < F) :
    Calls Try.prog 6 #[.int .u64 (F : Int), .int .u16 (n : Int), .slice a L c, .int .u8 (t : Int)] w fun e w' => e = .returned (.bool true) ∧ Below w.heap.size w w' := by
  have kA := fun w => hide1 (awake_any w)
  have e1 : Int.tmod (n : Int) 2000 = ((n % 2000 : Nat) : Int) := by rw [Int.tmod_eq_emod_of_nonneg (by omega)]; omega
  have e2 : IntKind.i64.wrap ((n % 2000 : Nat) : Int) = ((n % 2000 : Nat) : Int) := by rw [IntKind.wrap_i64]; omega
  have e3 : IntKind.u16.wrap ((n % 2000 : Nat) : Int) = ((n % 2000 : Nat) : Int) := by rw [IntKind.wrap_u16]; omega
  obtain ⟨m, hm⟩ : ∃ m, m = n % 2000 := ⟨_, rfl⟩
  rw [← hm] at e1 e2 e3
  clear hm hn
  by_cases h1 : L = 0
  · subst h1
    clear h
    go_enter Try.func6, Try.ntmps6
    go_wp2_with fail
    go_at_call 11
    refine (kA _).out.mono ?_
    rintro e w9 ⟨rfl, hb9⟩
    have B9 := hide1 hb9
    clear hb9
    go_wp2
    go_ret
    exact ⟨rfl, B9.out⟩
  · have q0 : ((L : Int) == 0) = false := by rw [beq_eq_false_iff_ne]; omega
    by_cases h2 : 600 < L
    · have t2 : (600 : Int) < (L : Int) := by omega
      clear h
      go_enter Try.func6, Try.ntmps6
      go_wp2_with fail
      go_at_call 11
      refine (kA _).out.mono ?_
      rintro e w9 ⟨rfl, hb9⟩
      have B9 := hide1 hb9
      clear hb9
      go_wp2
      go_ret
      exact ⟨rfl, B9.out⟩
    · have t2 : ¬ (600 : Int) < (L : Int) := by omega
      have t3 : (33554432 : Int) < (F : Int) := by omega
      clear h
      go_enter Try.func6, Try.ntmps6
      go_wp2_with fail
      go_at_call 11
      refine (kA _).out.mono ?_
      rintro e w9 ⟨rfl, hb9⟩
      have B9 := hide1 hb9
      clear hb9
      go_wp2
      go_ret
      exact ⟨rfl, B9.out⟩

/- both joiners on their way -/
structure Od (I : JI) (w2 w : World) (ga gb : Nat) (Fa Fb : Nat → Prop) (l : List Chk) (sa sb : Sts) : Prop where
  bel : Below w2.heap.size w2 w
  ja : I.jn w ga Fa l 1 sa
  jb : I.jn w gb Fb l 1 sb
  la : ∀ b, Fa b → w2.heap.size ≤ b
  lb : ∀ b, Fb b → w2.heap.size ≤ b
  ap : ∀ b, Fa b → ¬ Fb b
theorem Od.below {I : JI} {w2 w w' : World} {ga gb : Nat} {Fa Fb : Nat → Prop} {l : List Chk} {sa sb : Sts} (h : Od I w2 w ga gb Fa Fb l sa sb) (hb : Below w.heap.size w w') : Od I w2 w' ga gb Fa Fb l sa sb :=
  ⟨h.bel.trans (hb.mono h.bel.size), I.below h.ja hb (Nat.le_refl _), I.below h.jb hb (Nat.le_refl _), h.la, h.lb, h.ap⟩
theorem Od.addA {I : JI} {w2 w w' : World} {ga gb : Nat} {Fa Fa' Fb : Nat → Prop} {l : List Chk} {sa sa' sb : Sts} (h : Od I w2 w ga gb Fa Fb l sa sb) (hj : I.jn w' ga Fa' l 1 sa') (hk : Kp Fa w w') (hF : ∀ b, Fa' b → Fa b ∨ w.heap.size ≤ b) : Od I w2 w' ga gb Fa' Fb l sa' sb := by
  have hs := h.bel.size
  refine ⟨h.bel.trans (hk.below hs h.la), hj, I.keep h.jb fun b hb => hk.block b (I.lt h.jb hb) (fun ha => h.ap b ha hb), fun b hb => ?_, h.lb, fun b hb hb2 => ?_⟩
  · rcases hF b hb with h1 | h1
    · exact h.la b h1
    · omega
  · rcases hF b hb with h1 | h1
    · exact h.ap b h1 hb2
    · have := I.lt h.jb hb2
      omega
theorem Od.swap {I : JI} {w2 w : World} {ga gb : Nat} {Fa Fb : Nat → Prop} {l : List Chk} {sa sb : Sts} (h : Od I w2 w ga gb Fa Fb l sa sb) : Od I w2 w gb ga Fb Fa l sb sa := ⟨h.bel, h.jb, h.ja, h.lb, h.la, fun b h1 h2 => h.ap b h2 h1⟩

set_option maxHeartbeats 16000000 in
theorem order_in (I : JI) (F n L c t : Nat) (a : Option Addr) (xs : List Nat) (w : World) (hx : Nl w L a xs) (hn : n < 65536) (ht : t < 256) (hL : 0 < L) (hL2 : L ≤ 600) (hF : F ≤ 33554432) :
    Calls Try.prog 6 #[.int .u64 (F : Int), .int .u16 (n : Int), .slice a L c, .int .u8 (t : Int)] w fun e w' => e = .returned (.bool true) ∧ Below w.heap.size w w' := by
  have kA := fun w => hide1 (awake_any w)
  have e1 : Int.tmod (n : Int) 2000 = ((n % 2000 : Nat) : Int) := by rw [Int.tmod_eq_emod_of_nonneg (by omega)]; omega
  have e2 : IntKind.i64.wrap ((n % 2000 : Nat) : Int) = ((n % 2000 : Nat) : Int) := by rw [IntKind.wrap_i64]; omega
  have e3 : IntKind.u16.wrap ((n % 2000 : Nat) : Int) = ((n % 2000 : Nat) : Int) := by rw [IntKind.wrap_u16]; omega
  have hm2 : n % 2000 < 2000 := Nat.mod_lt _ (by omega)
  obtain ⟨m, hm⟩ : ∃ m, m = n % 2000 := ⟨_, rfl⟩
  rw [← hm] at e1 e2 e3 hm2
  clear hm hn
  have q0 : ((L : Int) == 0) = false := by rw [beq_eq_false_iff_ne]; omega
  have t2 : ¬ (600 : Int) < (L : Int) := by omega
  have t3 : ¬ (33554432 : Int) < (F : Int) := by omega
  have hC : planC F (m : Int) = 0 := by unfold planC; rw [if_neg (by omega), if_neg (by omega)]
  have hP : planL F (m : Int) = pl F m := by unfold planL; rw [if_pos hC]; rfl
  have kP := fun w => hide1 (pplan_any F m w (by omega))
  unfold PPost at kP
  rw [hC, hP] at kP
  have hp4 : pn m ≤ 4 := by unfold pn; omega
  have kN := fun W b d (h : Cl W (pn m) b (pl F m)) => hide1 (I.new0 (pn m) d b (pl F m) 1 W h (by omega) (good_pl (by omega) (by omega)))
  obtain ⟨P, hPd⟩ : ∃ P : Nat → List Nat, P = fun j => prt xs L (512 * j) (min 512 (m - 512 * j)) := ⟨_, rfl⟩
  have HPL : Shy (∀ k, (P k).length = min 512 (m - 512 * k)) := ⟨fun k => by rw [hPd]; exact prt_length _ _ _ _⟩
  have kPt : Hid (∀ j, j < pn m → ∀ W, Nl W L a xs → Calls Try.prog 21 #[.agg #[.int .u64 ((F + 512 * j : Nat) : Int), .int .i64 ((min 512 (m - 512 * j) : Nat) : Int), .int .i64 ((512 * j : Nat) : Int)], .slice a L c] W fun e w' => ∃ a' c', e = .returned (.slice a' (P j).length c') ∧ Nl w' (P j).length a' (P j) ∧ Below W.heap.size W w') := fun j hj W h => by
    rw [hPd]
    show Calls _ _ _ _ fun e w' => ∃ a' c', e = .returned (.slice a' (prt xs L (512 * j) (min 512 (m - 512 * j))).length c') ∧ Nl w' (prt xs L (512 * j) (min 512 (m - 512 * j))).length a' (prt xs L (512 * j) (min 512 (m - 512 * j))) ∧ Below W.heap.size W w'
    rw [prt_length]
    exact part_any _ _ _ L c a xs W h hL (by omega) (by unfold pn at hj; omega)
  have HX := hide1 hx
  clear hC hP hx hPd hF
  go_enter Try.func6, Try.ntmps6
  go_wp2_with fail
  go_at_call 8
  refine (kP _).out.mono ?_
  rintro e w2 ⟨ap, mp, cp, rfl, ho, hb⟩
  have hmp : mp = pn m := by have := ho.1; rw [chks_length, pl_length] at this; omega
  subst hmp
  have B2 := hide1 hb
  have CL := hide1 (cl_own ho)
  have X2 := hide1 (HX.out.below hb (Nat.le_refl _))
  clear ho hb kP HX
  obtain ⟨N, hN⟩ : ∃ N, N = pn m := ⟨_, rfl⟩
  rw [← hN] at CL kN kPt hp4 ⊢
  have HN := hide1 hN
  clear hN
  go_wp2_with fail
  go_at_call 14
  refine (kN w2 _ _ CL.out).out.mono ?_
  rintro e w3 ⟨ga, Fa, rfl, ja, la, hb3⟩
  have C3 := hide1 (CL.out.below hb3 (Nat.le_refl _))
  have H3 := hide1 (And.intro ja (And.intro la hb3))
  clear ja la hb3
  go_wp2_with fail
  go_at_call 14
  refine (kN w3 _ _ C3.out).out.mono ?_
  rintro e w4 ⟨gb, Fb, rfl, jb, lb, hb4⟩
  have od : Od I w2 w4 ga gb Fa Fb (pl F m) (stF P N (Da 0)) (stF P N (Db N t 0)) := by
    have e1 : stF P N (Da 0) = List.replicate N none := by rw [← stF_none P N]; exact stF_congr fun j _ => decide_eq_false (by omega)
    have e2 : stF P N (Db N t 0) = List.replicate N none := by rw [← stF_none P N]; exact stF_congr fun j _ => decide_eq_false (by rintro ⟨i, h, _⟩; omega)
    rw [e1, e2]
    have hs := H3.out.2.2.size
    exact ⟨H3.out.2.2.trans (hb4.mono hs), I.below H3.out.1 hb4 (Nat.le_refl _), jb, H3.out.2.1, fun b h => Nat.le_trans hs (lb b h), fun b h1 h2 => by have := I.lt H3.out.1 h1; have := lb b h2; omega⟩
  have OD := hide1 od
  clear jb lb hb4 od H3 C3 kN
  go_wp2
  go_loopw [16] (fun v16 wr => ∃ (i : Nat) (Fa Fb : Nat → Prop), i ≤ N ∧ v16 = .int .i64 i ∧ Od I w2 wr ga gb Fa Fb (pl F m) (stF P N (Da i)) (stF P N (Db N t i))) (fun v16 _ => N - (intOf v16).toNat)
  case atStart => exact ⟨0, Fa, Fb, Nat.zero_le _, rfl, OD.out⟩
  case round =>
    obtain ⟨i, Fa, Fb, hi, rfl, od⟩ := hrel
    have OD := hide1 od
    by_cases hlt : i < N
    · have bi : (i : Int) < (N : Int) := by omega
      have bi4 : (i : Int) < 4 := by omega
      obtain ⟨k, hk⟩ : ∃ k, k = (i + t) % N := ⟨_, rfl⟩
      have hkN : k < N := by rw [hk]; exact Nat.mod_lt _ (by omega)
      have bk : (k : Int) < (N : Int) := by omega
      have e4 : IntKind.i64.wrap (t : Int) = (t : Int) := by rw [IntKind.wrap_i64]; omega
      have e5 : IntKind.i64.wrap ((i : Int) + (t : Int)) = ((i + t : Nat) : Int) := by rw [← Int.natCast_add, IntKind.wrap_i64]; omega
      have e6 : Int.tmod ((i + t : Nat) : Int) (N : Int) = (k : Int) := by rw [Int.tmod_eq_emod_of_nonneg (by omega), hk]; rfl
      have nz : ((N : Int) == 0) = false := by rw [beq_eq_false_iff_ne]; omega
      have hiN : i < pn m := by rw [← HN.out]; exact hlt
      have hkM : k < pn m := by rw [← HN.out]; exact hkN
      have qa : addC (pl F m) 1 (stF P N (Da i)) (i : Int) (P i).length = 0 := by rw [HN.out]; exact stF_add hiN (decide_eq_false (by omega)) (HPL.out i)
      have qb : addC (pl F m) 1 (stF P N (Db N t i)) (k : Int) (P k).length = 0 := by
        have hd : Db N t i k = false := by rw [hk]; exact Db_new hlt
        rw [HN.out] at hd ⊢
        exact stF_add hkM hd (HPL.out k)
      have sa : (stF P N (Da i)).set i (some (P i)) = stF P N (Da (i + 1)) := stF_set fun j _ => Da_step i j
      have sb : (stF P N (Db N t i)).set k (some (P k)) = stF P N (Db N t (i + 1)) := stF_set fun j _ => by rw [hk]; exact Db_step N t i j
      obtain ⟨S, hS⟩ : ∃ S, S = i + t := ⟨_, rfl⟩
      rw [← hS] at e5 e6
      obtain ⟨gl, ol, rfl, a0, a1, a2⟩ := (CL.out.below od.bel (Nat.le_refl _)).at' i _ (pl_get hiN)
      obtain ⟨gl', ol', ex, b0, b1, b2⟩ := CL.out.at' k _ (pl_get hkM)
      cases ex
      have KP1 := hide1 (kPt.out i hlt)
      have KP2 := hide1 (kPt.out k hkN)
      have a0 : wr.cell? ⟨gl, ol + i * 3, none⟩ = some (.int .u64 ((F + 512 * i : Nat) : Int)) := a0
      have a1 : wr.cell? ⟨gl, ol + i * 3 + 1, none⟩ = some (.int .i64 ((min 512 (m - 512 * i) : Nat) : Int)) := a1
      have a2 : wr.cell? ⟨gl, ol + i * 3 + 2, none⟩ = some (.int .i64 ((512 * i : Nat) : Int)) := a2
      have BC : Hid (∀ W, Below w2.heap.size w2 W → W.cell? ⟨gl, ol + k * 3, none⟩ = some (.int .u64 ((F + 512 * k : Nat) : Int)) ∧ W.cell? ⟨gl, ol + k * 3 + 1, none⟩ = some (.int .i64 ((min 512 (m - 512 * k) : Nat) : Int)) ∧ W.cell? ⟨gl, ol + k * 3 + 2, none⟩ = some (.int .i64 ((512 * k : Nat) : Int))) := fun W h => ⟨(h.cell (p := ⟨gl, _, none⟩) (lt_cell b0)).trans b0, (h.cell (p := ⟨gl, _, none⟩) (lt_cell b1)).trans b1, (h.cell (p := ⟨gl, _, none⟩) (lt_cell b2)).trans b2⟩
      obtain ⟨f1, hf1⟩ : ∃ x, x = F + 512 * i := ⟨_, rfl⟩
      obtain ⟨f2, hf2⟩ : ∃ x, x = F + 512 * k := ⟨_, rfl⟩
      obtain ⟨c1, hc1⟩ : ∃ x, x = min 512 (m - 512 * i) := ⟨_, rfl⟩
      obtain ⟨c2, hc2⟩ : ∃ x, x = min 512 (m - 512 * k) := ⟨_, rfl⟩
      obtain ⟨s1, hs1⟩ : ∃ x, x = 512 * i := ⟨_, rfl⟩
      obtain ⟨s2, hs2⟩ : ∃ x, x = 512 * k := ⟨_, rfl⟩
      rw [← hf1, ← hc1, ← hs1] at KP1
      rw [← hf2, ← hc2, ← hs2] at KP2
      rw [← hf1] at a0
      rw [← hc1] at a1
      rw [← hs1] at a2
      rw [← hf2, ← hc2, ← hs2] at BC
      obtain ⟨j1, hj1⟩ : ∃ x, x = ol + i * 3 := ⟨_, rfl⟩
      obtain ⟨j2, hj2⟩ : ∃ x, x = ol + k * 3 := ⟨_, rfl⟩
      rw [← hj1] at a0 a1 a2
      rw [← hj2] at BC
      have ej1 : ol + i * 3 = j1 := hj1.symm
      have ej2 : ol + k * 3 = j2 := hj2.symm
      have XW := hide1 (X2.out.below od.bel (Nat.le_refl _))
      have SA := hide1 sa
      have SB := hide1 sb
      have QA := hide1 qa
      have QB := hide1 qb
      clear hk hS hf1 hf2 hc1 hc2 hs1 hs2 hj1 hj2 b0 b1 b2 hiN hkM sa sb qa qb od
      go_wp2_with fail
      go_at_call 21
      refine (KP1.out wr XW.out).mono ?_
      rintro e w5 ⟨pa, pc, rfl, hnl, hb5⟩
      have OD5 := hide1 (OD.out.below hb5)
      have KA := hide1 (I.add w5 ga Fa (pl F m) 1 (stF P N (Da i)) i _ pc pa (P i) OD5.out.ja hnl QA.out)
      rw [SA.out] at KA
      clear hnl hb5 OD XW a0 a1 a2
      go_wp2_with fail
      go_at_call 17
      refine KA.out.mono ?_
      rintro e w6 ⟨Fa', rfl, hj6, hk6, hF6⟩
      have OD6 := hide1 (OD5.out.addA hj6 hk6 hF6)
      obtain ⟨b0, b1, b2⟩ := BC.out w6 OD6.out.bel
      have XW := hide1 (X2.out.below OD6.out.bel (Nat.le_refl _))
      clear hj6 hk6 hF6 OD5 KA
      go_wp2_with fail
      go_at_call 21
      refine (KP2.out w6 XW.out).mono ?_
      rintro e w7 ⟨pa2, pc2, rfl, hnl, hb7⟩
      have OD7 := hide1 (OD6.out.below hb7)
      have KA := hide1 (I.add w7 gb Fb (pl F m) 1 (stF P N (Db N t i)) k _ pc2 pa2 (P k) OD7.out.jb hnl QB.out)
      rw [SB.out] at KA
      clear hnl hb7 OD6 XW b0 b1 b2
      go_wp2_with fail
      go_at_call 17
      refine KA.out.mono ?_
      rintro e w8 ⟨Fb', rfl, hj8, hk8, hF8⟩
      have OD8 := hide1 ((OD7.out.swap.addA hj8 hk8 hF8).swap)
      clear hj8 hk8 hF8 OD7 KA
      go_wp2
      go_roundw
      case rel => exact ⟨i + 1, Fa', Fb', by omega, by go_num, OD8.out⟩
      case measure => simp [intOf]; omega
    · obtain rfl : i = N := by omega
      have nk : ¬ (i : Int) < (i : Int) := by omega
      have ha : stF P i (Da i) = stF P i (fun _ => true) := stF_congr fun j hj => Da_all hj
      have hb : stF P i (Db i t i) = stF P i (fun _ => true) := stF_congr fun j hj => Db_all hj
      rw [ha, hb] at OD
      have hall := stF_all (P := P) (m := m) fun k _ => HPL.out k
      rw [← HN.out] at hall
      have HALL := hide1 hall
      generalize stF P i (fun _ => true) = st at *
      have KL := hide1 (I.all1 wr ga Fa (pl F m) 1 st OD.out.ja HALL.out.1)
      clear od ha hb hall
      go_wp2_with fail
      go_at_call 19
      refine KL.out.mono ?_
      rintro e w5 ⟨xa, xm, xc, rfl, hnx, hb5⟩
      have OD5 := hide1 (OD.out.below hb5)
      have NX := hide1 hnx
      have KL := hide1 (I.all1 w5 gb Fb (pl F m) 1 st OD5.out.jb HALL.out.1)
      clear hnx hb5 OD
      go_wp2_with fail
      go_at_call 19
      refine KL.out.mono ?_
      rintro e w6 ⟨ya, ym, yc, rfl, hny, hb6⟩
      have BB := hide1 (B2.out.trans ((OD5.out.below hb6).bel.mono B2.out.size))
      have hxm : xm = m := by rw [← NX.out.len]; exact HALL.out.2
      have hym : ym = m := by rw [← hny.len]; exact HALL.out.2
      subst hxm
      subst hym
      have KQ := hide1 (nums_any w6 ym xc yc xa ya (joinL st) (NX.out.below hb6 (Nat.le_refl _)) hny (by omega))
      have qq : ((ym : Int) == (ym : Int)) = true := by simp
      clear hny hb6 OD5 NX KL
      go_wp2_with fail
      go_at_call 20
      refine KQ.out.mono ?_
      rintro e w7 ⟨rfl, q7, hq⟩
      have hb7 : Below w6.heap.size w6 w7 := by rw [hq]; exact below_drewN (Below.refl _ _) q7
      have B7 := hide1 (BB.out.trans (hb7.mono BB.out.size))
      clear hq hb7 KQ BB
      go_wp2_with fail
      go_at_call 11
      refine (kA _).out.mono ?_
      rintro e w8 ⟨rfl, hb8⟩
      have B8 := hide1 (B7.out.trans (hb8.mono B7.out.size))
      clear hb8
      go_wp2
      go_ret
      exact ⟨rfl, B8.out⟩

theorem order_all (I : JI) (F n L c t : Nat) (a : Option Addr) (xs : List Nat) (w : World) (hx : Nl w L a xs) (hn : n < 65536) (ht : t < 256) :
    Calls Try.prog 6 #[.int .u64 (F : Int), .int .u16 (n : Int), .slice a L c, .int .u8 (t : Int)] w fun e w' => e = .returned (.bool true) ∧ Below w.heap.size w w' := by
  by_cases h : L = 0 ∨ 600 < L ∨ 33554432 < F
  · exact order_else F n L c t a w hn h
  · exact order_in I F n L c t a xs w hx hn ht (by omega) (by omega) (by omega)
end Go.Proofs.Ytceemkjmmfkmdaa.St
