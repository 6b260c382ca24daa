/- Rows of words of the call's own; what Take answers, in one; the document's Take and Skip; Skip. -/
import Derived.Test.YtdkakodlkbkhnaaDoorG
import Derived.Deep.AppendLies
import Derived.Laws.ResultCell
namespace Go.Proofs.YtdkakodlkbkhnaaDoor
open Go.RowKit
set_option maxRecDepth 100000
attribute [local go_sem] not_any mf_any

/- a row of words of the call's own, with some room behind it -/
def Mn (w : World) (g : Nat) (l : List Nat) : Prop := ∃ cur : Array Value, w.heap[g]? = some (.cells cur 44 (0, 0)) ∧ cur.toList.take l.length = u64s l
theorem mn_row {w : World} {g : Nat} {l : List Nat} (h : w.heap[g]? = some (wrow l)) : Mn w g l := ⟨_, h, by rw [← u64s_length l]; exact List.take_length⟩
theorem mn_get {l : List Nat} {cur : Array Value} (h2 : cur.toList.take l.length = u64s l) {j : Nat} (hj : j < l.length) : cur[j]? = some (.int .u64 (at0 l j : Nat)) := by
  have e : (cur.toList.take l.length)[j]? = (u64s l)[j]? := by rw [h2]
  rw [List.getElem?_take_of_lt hj] at e
  rw [← Array.getElem?_toList, e, u64s, List.getElem?_map, get_at0 hj]
  rfl
theorem Mn.cell {w : World} {g : Nat} {l : List Nat} (h : Mn w g l) {j : Nat} (hj : j < l.length) : w.cell? ⟨g, j, none⟩ = some (.int .u64 (at0 l j : Nat)) := by
  obtain ⟨cur, h1, h2⟩ := h
  rw [cell_of_row w g j cur 44 (0, 0) h1]
  exact mn_get h2 hj
theorem Mn.frozen {w : World} {g : Nat} {l : List Nat} (h : Mn w g l) (j : Nat) : w.frozen? ⟨g, j, none⟩ = false := by
  obtain ⟨cur, h1, h2⟩ := h
  exact frozen_of_row w g j cur 44 h1
theorem Mn.set {w : World} {g : Nat} {l : List Nat} (h : Mn w g l) (j x : Nat) : Mn (w.setCell ⟨g, j, none⟩ (.int .u64 (x : Int))) g (l.set j x) := by
  obtain ⟨cur, h1, h2⟩ := h
  refine ⟨_, heap_setCell_same w g j cur 44 _ h1, ?_⟩
  rw [List.length_set, Array.toList_setIfInBounds, List.take_set, h2]
  simp [u64s]
theorem Mn.to {w w' : World} {g : Nat} {l : List Nat} (h : Mn w g l) (hb : w'.heap[g]? = w.heap[g]?) : Mn w' g l := by
  obtain ⟨cur, h1, h2⟩ := h
  exact ⟨cur, hb.trans h1, h2⟩
theorem Mn.lt {w : World} {g : Nat} {l : List Nat} (h : Mn w g l) : g < w.heap.size := by
  obtain ⟨cur, h1, h2⟩ := h
  exact lt_of_heap h1

structure Ow (w : World) (B n : Nat) (a : Option Addr) (l : List Nat) : Prop where
  len : l.length = n
  at' : n = 0 ∨ ∃ g, a = some ⟨g, 0, none⟩ ∧ B ≤ g ∧ Mn w g l
theorem Ow.nl {w : World} {B n : Nat} {a : Option Addr} {l : List Nat} (h : Ow w B n a l) : Nl w n a l :=
  ⟨h.len, fun j x hj => by
    have hj' := (List.getElem?_eq_some_iff.1 hj).1
    rcases h.at' with h0 | ⟨g, rfl, _, hm⟩
    · rw [h.len] at hj'; omega
    · exact ⟨g, 0, rfl, by rw [Nat.zero_add, hm.cell hj', at0_get hj]⟩⟩
theorem Ow.nil (w : World) (B : Nat) (a : Option Addr) : Ow w B 0 a [] := ⟨rfl, .inl rfl⟩
theorem Ow.mono {w : World} {B B' n : Nat} {a : Option Addr} {l : List Nat} (h : Ow w B n a l) (hB : B' ≤ B) : Ow w B' n a l :=
  ⟨h.len, h.at'.imp id fun ⟨g, h1, h2, h3⟩ => ⟨g, h1, by omega, h3⟩⟩
theorem Ow.next {w w' : World} {B n : Nat} {a : Option Addr} {l : List Nat} (h : Ow w B n a l) (hb : Below w.heap.size w w') : Ow w' B n a l :=
  ⟨h.len, h.at'.imp id fun ⟨g, h1, h2, h3⟩ => ⟨g, h1, h2, h3.to (hb.block g h3.lt)⟩⟩
theorem Ow.kp {w w' : World} {B n : Nat} {S : Nat → Obj → Prop} {a : Option Addr} {l : List Nat} (h : Ow w B n a l) (hb : Kp S w w') (hS : ∀ j o, S j o → j < B) : Ow w' B n a l :=
  ⟨h.len, h.at'.imp id fun ⟨g, h1, h2, cur, h3, h4⟩ => ⟨g, h1, h2, cur, hb.same g _ h3 (fun hs => by have := hS _ _ hs; omega), h4⟩⟩
theorem ow_own {base : Nat} {w : World} {a : Option Addr} {n cap : Nat} {l : List Nat} (hn : l.length = n) (h : w.ownsRow base 44 1 (.slice a n cap) n (u64s l)) : Ow w base n a l := by
  refine ⟨hn, ?_⟩
  rcases h.2 with ⟨_, h1⟩ | ⟨g', cap', cur, h1, h2, h3, _, _, _, h4⟩
  · exact .inl (by simpa using h1)
  · cases h1
    refine .inr ⟨g', rfl, h2, cur, h3, ?_⟩
    rw [hn, ← h4, Nat.mul_one]

theorem own_empty (w : World) (base : Nat) (hb : base ≤ w.heap.size) : (w.alloc (.cells #[] 44)).ownsRow base 44 1 (.slice (some ⟨w.heap.size, 0, none⟩) 0 0) 0 (u64s []) :=
  ⟨rfl, .inr ⟨w.heap.size, 0, #[], rfl, hb, World.alloc_heap_new _ _, Nat.le_refl _, by unfold maxLen; omega, rfl, rfl⟩⟩
theorem own_nil (w : World) (base : Nat) : w.ownsRow base 44 1 (.slice none 0 0) 0 (u64s []) := ⟨rfl, .inl ⟨rfl, rfl⟩⟩

theorem run_append_empty {P : Program} {w : World} (base : Nat) (t ty e : TypeId) (i : TypeInfo) (size : Nat) (ht : P.underlying t = some (.slice e)) (hi : P.info? e = some i)
    (v : Value) (n : Nat) (xs : List Value) (hown : w.ownsRow base e size v n xs) (a : Option Addr) (c : Nat) :
    (Builtin.append_ #[t, t] ty #[v, .slice a 0 c]).run P w = .ok v w := by
  have hl : ∀ (x : Addr), (loadCells x 0).run P w = .ok #[] w := fun x => by simpa using run_loadCells_list (P := P) w x [] (by simp)
  rcases hown.2 with ⟨rfl, rfl⟩ | ⟨g, cap, cur, rfl, _, _, hnc, _⟩
  · cases a <;> simp [Builtin.append_, run_underlying ht, sizeOf, typeInfo, hi, Builtin.lenOf, Builtin.firstCells, hl]
  · cases a <;> simp [Builtin.append_, run_underlying ht, sizeOf, typeInfo, hi, Builtin.lenOf, Builtin.firstCells, hnc, storeCells, hl]

theorem nl_news {w : World} {g off m : Nat} {l : List Nat} (h : Nl w m (some ⟨g, off, none⟩) l) : ∀ j u, (u64s l)[j]? = some u → w.cell? ((⟨g, off, none⟩ : Addr).add j) = some u := by
  intro j u hu
  rw [u64s, List.getElem?_map] at hu
  cases hy : l[j]? with
  | none => simp [hy] at hu
  | some y =>
    simp [hy] at hu
    subst hu
    obtain ⟨g', o', h1, h2⟩ := h.at' j y hy
    cases h1
    rw [Addr.add_lit]
    exact h2

/- words put behind a row of the call's own -/
theorem wpList_append_nl {w : World} {ops : Array Oper} {rest : List Oper} {o : Oper} {act : Act} {Q : Exit → Act → World → Prop} (hgd : o.guard = none) (s x : Operand)
    (ho : o.op = .call { callee := .builtin .append, args := #[s, x], argTypes := #[22, 22] })
    (base : Nat) (v : Value) (n : Nat) (xs : List Nat) (hs : act.eval s = v) (hown : w.ownsRow base 44 1 v n (u64s xs)) (a : Option Addr) (m c : Nat) (l : List Nat) (hx : act.eval x = .slice a m c) (hl : Nl w m a l)
    (hle : n + m ≤ 2000000) (hbase : base ≤ w.heap.size)
    (h : ∀ a' cap w', w'.ownsRow base 44 1 (.slice a' (n + m) cap) (n + m) (u64s (xs ++ l)) → w.grownBy w' v.ownBlock → wpList Tryd.prog ops Q rest (act.put o.dst (.slice a' (n + m) cap)) w') : wpList Tryd.prog ops Q (o :: rest) act w := by
  obtain ⟨i0, hi, hz0, hz1, hz2⟩ := info_of info44
  by_cases h0 : m = 0
  · subst h0
    obtain rfl : l = [] := List.eq_nil_of_length_eq_zero hl.len
    refine wpList_plain hgd fun K hK => ?_
    have hrun := run_append_empty (P := Tryd.prog) (w := w) base 22 o.type 44 i0 1 Tryd.underlying22 hi v n _ hown a c
    unfold Oper.wp
    simp [execOp, ho, resolve, invoke, builtin, hs, hx, hrun, Result.andThen]
    obtain ⟨a', cap, rfl⟩ : ∃ a' cap, v = .slice a' n cap := by
      rcases hown.2 with ⟨rfl, h1⟩ | ⟨g', cap', cur, rfl, _⟩
      · have : n = 0 := by simpa using h1
        subst this
        exact ⟨none, 0, rfl⟩
      · exact ⟨_, _, rfl⟩
    exact hK _ _ (h a' cap w (by simpa using hown) (World.grownBy.refl _ _))
  · obtain ⟨y, hy⟩ : ∃ y, l[0]? = some y := ⟨_, List.getElem?_eq_getElem (by rw [hl.len]; omega)⟩
    obtain ⟨g, off, rfl, _⟩ := hl.at' 0 y hy
    refine wpList_append_lies w hgd s x 22 ho base 44 i0 (.int .u64 0) 1 8 Tryd.underlying22 hi hz0 hz1 hz2 rfl (by decide) v n _ hs hown ⟨g, off, none⟩ m c (u64s l) hx (by simp [u64s_length, hl.len]) (nl_news hl) (u64s_one l) (by omega) (by unfold maxLen; omega) (by omega) hbase _ rfl ?_
    intro g' cap w' h1 h2 _ _
    exact h _ cap w' (by simpa [u64s] using h1) h2

theorem Below.own {B : Nat} {w w' : World} {v : Value} (hg : w.grownBy w' v.ownBlock) {base : Nat} (hown : ∀ k, v.ownBlock = some k → base ≤ k) (hB : B ≤ base) (hw : B ≤ w.heap.size) : Below B w w' :=
  (Below.refl _ _).grown hg hw (fun k hk => Nat.le_trans hB (hown k hk))

/- what Take answers, in one -/
def TakePost (w : World) (t b k : Nat) (n : Int) (ws : List Nat) (e : Ending) (w' : World) : Prop :=
  ∃ a m c v, e = .returned (.tuple #[.slice a m c, v]) ∧ Ow w' w.heap.size m a (takeL n k ws) ∧ IsE w' (takeC n k ws.length) v ∧ Tp w' t b (takeK n k ws.length) ws.length ∧ Kp (fun j _ => j = t) w w'

theorem take_any (t b k : Nat) (n : Int) (ws : List Nat) (w : World) (ht : Tp w t b k ws.length) (hr : w.heap[b]? = some (wrow ws)) (hL : ws.length ≤ 1048576) :
    Calls Tryd.prog 10 #[.pointer (some ⟨t, 0, none⟩), .int .i64 n] w (TakePost w t b k n ws) := by
  by_cases h1 : n < 0
  · refine (take_neg t b k ws.length n w ht h1).mono ?_
    rintro e w' ⟨rfl, h2, h3⟩
    refine ⟨none, 0, 0, _, rfl, ?_, ?_, ?_, Kp.ofBelow h3⟩
    · simp only [takeL, if_pos h1]; exact Ow.nil _ _ _
    · simp only [takeC, if_pos h1]; exact .inr ⟨rfl, _, rfl, h2⟩
    · simp only [takeK, if_pos h1]; exact ht.below h3 ht.lt
  · obtain ⟨m, rfl⟩ : ∃ m : Nat, n = m := ⟨n.toNat, by omega⟩
    by_cases h2 : ws.length < k + m
    · have h2' : ((ws.length : Nat) : Int) < (k : Int) + (m : Int) := by omega
      refine (take_far t b k ws.length m w ht hL h2).mono ?_
      rintro e w' ⟨rfl, h4, h3⟩
      refine ⟨none, 0, 0, _, rfl, ?_, ?_, ?_, Kp.ofBelow h3⟩
      · simp only [takeL, if_neg h1, if_pos h2']; exact Ow.nil _ _ _
      · simp only [takeC, if_neg h1, if_pos h2']; exact .inr ⟨rfl, _, rfl, h4⟩
      · simp only [takeK, if_neg h1, if_pos h2']; exact ht.below h3 ht.lt
    · have h2' : ¬ ((ws.length : Nat) : Int) < (k : Int) + (m : Int) := by omega
      have hlen := len_part (ws := ws) (k := k) (n := m) (by omega)
      refine (take_yes t b k m ws w ht hr hL (by omega)).mono ?_
      rintro e w' ⟨rfl, h4, h5, h6⟩
      refine ⟨_, m, m, _, rfl, ?_, ?_, ?_, h6⟩
      · simp only [takeL, if_neg h1, if_neg h2', Int.toNat_natCast]
        exact ⟨hlen, .inr ⟨_, rfl, Nat.le_refl _, mn_row h4⟩⟩
      · simp only [takeC, if_neg h1, if_neg h2']; exact IsE.nil _
      · simp only [takeK, if_neg h1, if_neg h2', Int.toNat_natCast]; exact h5

theorem results_ctt {fn : Func} {p u v : Tmp} {ty : TypeId} (h : fn.results = #[.cell p ty, .tmp u, .tmp v]) (tmps : Array Value) (P : Program) (w : World) :
    (results fn tmps).run P w =
      ((asAddr (tmps.getD p undef)).run P w).andThen fun a w₁ => ((loadVar ty a).run P w₁).andThen fun x w₂ => .ok (.tuple #[x, tmps.getD u undef, tmps.getD v undef]) w₂ := by
  simp only [results, h]
  simp [Sem.run_bind, Result.andThen]

theorem ret_ctt {fn : Func} {p u v : Tmp} (h : fn.results = #[.cell p 31, .tmp u, .tmp v]) {R : Ending → World → Prop} {a : Act} {w : World} (g : Nat) (x y z z' : Value) (hp : a.tmps.getD p undef = .pointer (some ⟨g, 0, none⟩))
    (hu : a.tmps.getD u undef = z) (hv : a.tmps.getD v undef = z') (hg : w.heap[g]? = some (.cells #[x, y] 31 (0, 0))) (hd : a.defers = []) (hR : R (.returned (.tuple #[.agg #[x, y], z, z'])) w) : bodyPost Tryd.prog fn R .ret a w := by
  refine bodyPost_ret (v := .tuple #[.agg #[x, y], z, z']) ?_ hd hR
  have hl := run_loadVar_row (P := Tryd.prog) w g 31 31 #[x, y] (0, 0) _ hg Tryd.underlying31 rfl (by kernel_rfl)
  rw [results_ctt h, hp, hu, hv]
  simp [asAddr, hl, Result.andThen]

theorem ret_ct {fn : Func} {p u : Tmp} (h : fn.results = #[.cell p 31, .tmp u]) {R : Ending → World → Prop} {a : Act} {w : World} (g : Nat) (x y z : Value) (hp : a.tmps.getD p undef = .pointer (some ⟨g, 0, none⟩))
    (hu : a.tmps.getD u undef = z) (hg : w.heap[g]? = some (.cells #[x, y] 31 (0, 0))) (hd : a.defers = []) (hR : R (.returned (.tuple #[.agg #[x, y], z])) w) : bodyPost Tryd.prog fn R .ret a w := by
  refine bodyPost_ret (v := .tuple #[.agg #[x, y], z]) ?_ hd hR
  have hl := run_loadVar_row (P := Tryd.prog) w g 31 31 #[x, y] (0, 0) _ hg Tryd.underlying31 rfl (by kernel_rfl)
  rw [results_cell_tmp h, hp, hu]
  simp [asAddr, hl, Result.andThen]

def RTakePost (w : World) (s : Value) (k : Nat) (n : Int) (ws : List Nat) (e : Ending) (w' : World) : Prop :=
  ∃ a m c, e = .returned (.tuple #[.agg #[s, .int .i64 (takeK n k ws.length : Nat)], .slice a m c, .int .i64 (takeC n k ws.length)]) ∧ Ow w' w.heap.size m a (takeL n k ws) ∧ Below w.heap.size w w'

set_option maxHeartbeats 1000000 in
theorem rtake_neg (a : Option Addr) (L c k : Nat) (n : Int) (ws : List Nat) (w : World) (hn : n < 0) :
    Calls Tryd.prog 20 #[.agg #[.slice a L c, .int .i64 (k : Int)], .int .i64 n] w (RTakePost w (.slice a L c) k n ws) := by
  have HP : Shy (takeK n k ws.length = k ∧ takeC n k ws.length = 1 ∧ takeL n k ws = []) := ⟨by simp [takeK, takeC, takeL, hn]⟩
  go_enter Tryd.func20, Tryd.ntmps20
  go_wp2
  refine ret_ctt Tryd.results20 (w.heap.size + 1) _ _ _ _ rfl rfl rfl (heap_alloc2_new _ _ _) rfl ⟨none, 0, 0, by rw [HP.out.1, HP.out.2.1]; rfl, by rw [HP.out.2.2]; exact Ow.nil _ _ _, ((Below.refl _ _).alloc (Nat.le_refl _) _).alloc (by simp) _⟩

set_option maxHeartbeats 1000000 in
theorem rtake_far (a : Option Addr) (c k : Nat) (n : Nat) (ws : List Nat) (w : World) (hk : k ≤ ws.length) (hL : ws.length ≤ 1048576) (hn : ws.length < k + n) :
    Calls Tryd.prog 20 #[.agg #[.slice a ws.length c, .int .i64 (k : Int)], .int .i64 (n : Int)] w (RTakePost w (.slice a ws.length c) k n ws) := by
  have h1 : ¬ (n : Int) < 0 := by omega
  have h2 : ((ws.length : Nat) : Int) < (k : Int) + (n : Int) := by omega
  have HP : Shy (takeK n k ws.length = k ∧ takeC n k ws.length = 10 ∧ takeL n k ws = []) := ⟨by simp only [takeK, takeC, takeL, if_neg h1, if_pos h2, and_self]⟩
  obtain ⟨L, hLd⟩ : ∃ L, L = ws.length := ⟨_, rfl⟩
  obtain ⟨r, hrd⟩ : ∃ r, r = L - k := ⟨_, rfl⟩
  have hw : IntKind.i64.wrap ((L : Int) - (k : Int)) = (r : Int) := by rw [IntKind.wrap_i64]; omega
  have hn1 : decide ((n : Int) < 0) = false := by simp
  have hn2 : decide (r < n) = true := by simp; omega
  rw [← hLd]
  have HLd : Shy (ws.length = L) := ⟨hLd.symm⟩
  clear h1 h2 hk hL hn hLd hrd
  go_enter Tryd.func20, Tryd.ntmps20
  go_wp2
  refine ret_ctt Tryd.results20 (w.heap.size + 1) _ _ _ _ rfl rfl rfl (heap_alloc2_new _ _ _) rfl ⟨none, 0, 0, by rw [HP.out.1, HP.out.2.1]; rfl, by rw [HP.out.2.2]; exact Ow.nil _ _ _, ((Below.refl _ _).alloc (Nat.le_refl _) _).alloc (by simp) _⟩

theorem run_cut2 (a : Option Addr) (L c k n s : Nat) (hs : s = k + n) (hL : s ≤ c) : ∃ a', (∀ w, (Instr.slice 22 (.slice a L c) (some (.int .i64 (k : Int))) (some (.int .i64 (s : Int))) none).run Tryd.prog w = .ok (.slice a' n (c - k)) w) ∧ (∀ g o, a = some ⟨g, o, none⟩ → k < c → a' = some ⟨g, o + k, none⟩) := by
  refine ⟨if c = k then a else a.map (·.add (k * 1)), fun w => ?_, fun g o ha hk => by rw [if_neg (by omega), ha]; simp [Addr.add_lit]⟩
  have a1 : (s : Int) ≤ (c : Int) := by omega
  have a2 : (k : Int) ≤ (s : Int) := by omega
  have a3 : s - k = n := by omega
  simp [Instr.slice, run_underlying Tryd.underlying22, Instr.sliceBounds, run_sliceBound, a1, a2, a3]

theorem nl_cut {w : World} {a a' : Option Addr} {c k n : Nat} {ws : List Nat} (h : Nl w ws.length a ws) (hn : k + n ≤ ws.length) (hc : ws.length ≤ c) (ha : ∀ g o, a = some ⟨g, o, none⟩ → k < c → a' = some ⟨g, o + k, none⟩) : Nl w n a' ((ws.drop k).take n) :=
  ⟨len_part hn, fun j x hj => by
    have hj2 : j < n := by
      have := (List.getElem?_eq_some_iff.1 hj).1
      rw [len_part hn] at this
      exact this
    rw [List.getElem?_take_of_lt hj2, List.getElem?_drop] at hj
    obtain ⟨g, o, h1, h2⟩ := h.at' (k + j) x hj
    refine ⟨g, o + k, ha g o h1 (by omega), ?_⟩
    rw [Nat.add_assoc]
    exact h2⟩

theorem set2 {W : World} {g : Nat} {x y : Value} {t : TypeId} (h : W.heap[g]? = some (.cells #[x, y] t (0, 0))) (u v : Value) :
    ((W.setCell ⟨g, 0, none⟩ u).setCell ⟨g, 1, none⟩ v).heap[g]? = some (.cells #[u, v] t (0, 0)) := by
  rw [heap_setCell_same _ g 1 _ t v (heap_setCell_same W g 0 _ t u h)]
  rfl

theorem box2 {W : World} {g : Nat} {x y : Value} {t : TypeId} (h : W.heap[g]? = some (.cells #[x, y] t (0, 0))) :
    W.cell? ⟨g, 0, none⟩ = some x ∧ W.cell? ⟨g, 1, none⟩ = some y ∧ W.frozen? ⟨g, 0, none⟩ = false ∧ W.frozen? ⟨g, 1, none⟩ = false := by
  refine ⟨?_, ?_, ?_, ?_⟩ <;> simp [World.cell?, World.frozen?, h]

set_option maxHeartbeats 2000000 in
theorem rtake_yes (a : Option Addr) (c k : Nat) (n : Nat) (ws : List Nat) (w : World) (ha : Nl w ws.length a ws) (hc : ws.length ≤ c) (hL : ws.length ≤ 1048576) (hn : k + n ≤ ws.length) :
    Calls Tryd.prog 20 #[.agg #[.slice a ws.length c, .int .i64 (k : Int)], .int .i64 (n : Int)] w (RTakePost w (.slice a ws.length c) k n ws) := by
  have h1 : ¬ (n : Int) < 0 := by omega
  have h2 : ¬ ((ws.length : Nat) : Int) < (k : Int) + (n : Int) := by omega
  obtain ⟨s, hs⟩ : ∃ s, s = k + n := ⟨_, rfl⟩
  have HP : Shy (takeK n k ws.length = s ∧ takeC n k ws.length = 0 ∧ takeL n k ws = (ws.drop k).take n) := ⟨by simp only [takeK, takeC, takeL, if_neg h1, if_neg h2, Int.toNat_natCast, hs, and_self]⟩
  have HLP := hide1 (len_part hn)
  obtain ⟨a', hcut, ha'⟩ := run_cut2 a ws.length c k n s hs (by omega)
  have HA := fun (w' : World) (hb : Below w.heap.size w w') => hide1 (nl_cut (ha.next hb) hn hc ha')
  obtain ⟨L, hLd⟩ : ∃ L, L = ws.length := ⟨_, rfl⟩
  obtain ⟨r, hrd⟩ : ∃ r, r = L - k := ⟨_, rfl⟩
  have hw : IntKind.i64.wrap ((L : Int) - (k : Int)) = (r : Int) := by rw [IntKind.wrap_i64]; omega
  have hws : IntKind.i64.wrap ((k : Int) + (n : Int)) = (s : Int) := by rw [IntKind.wrap_i64]; omega
  have hn1 : decide ((n : Int) < 0) = false := by simp
  have hn2 : decide (r < n) = false := by simp; omega
  have HNM : Shy (0 + n ≤ 2000000) := ⟨by omega⟩
  rw [← hLd]
  rw [← hLd] at hcut
  generalize (ws.drop k).take n = l at *
  have HB : Hid (Below w.heap.size w (((w.alloc (.cells #[.slice a L c, .int .i64 (k : Int)] 31)).alloc (.cells #[.slice none 0 0, .int .i64 0] 31)).alloc (.cells #[] 44))) := by
    repeat (first | exact Below.refl _ _ | refine Below.alloc ?_ (by first | omega | (simp; omega) | simp) _)
  have HO : Hid ((((w.alloc (.cells #[.slice a L c, .int .i64 (k : Int)] 31)).alloc (.cells #[.slice none 0 0, .int .i64 0] 31)).alloc (.cells #[] 44)).ownsRow (w.heap.size + 2) 44 1 (.slice (some ⟨w.heap.size + 2, 0, none⟩) 0 0) 0 (u64s [])) := by
    have := own_empty ((w.alloc (.cells #[.slice a L c, .int .i64 (k : Int)] 31)).alloc (.cells #[.slice none 0 0, .int .i64 0] 31)) (w.heap.size + 2) (by simp)
    rw [show ((w.alloc (.cells #[.slice a L c, .int .i64 (k : Int)] 31)).alloc (.cells #[.slice none 0 0, .int .i64 0] 31)).heap.size = w.heap.size + 2 by simp] at this
    exact this
  have HA' := HA _ HB.out
  have hb0 : (((w.alloc (.cells #[.slice a L c, .int .i64 (k : Int)] 31)).alloc (.cells #[.slice none 0 0, .int .i64 0] 31)).alloc (.cells #[] 44)).heap[w.heap.size]? = some (.cells #[.slice a L c, .int .i64 (k : Int)] 31 (0, 0)) := (Below.heap_alloc _ _ _ (by simp; omega)).trans (heap_alloc2_old _ _ _)
  have hb1 : (((w.alloc (.cells #[.slice a L c, .int .i64 (k : Int)] 31)).alloc (.cells #[.slice none 0 0, .int .i64 0] 31)).alloc (.cells #[] 44)).heap[w.heap.size + 1]? = some (.cells #[.slice none 0 0, .int .i64 0] 31 (0, 0)) := (Below.heap_alloc _ _ _ (by simp)).trans (heap_alloc2_new _ _ _)
  have H0 := hide1 (And.intro hb0 hb1)
  clear h1 h2 hL hn hLd hrd ha hc ha' hs HA hb0 hb1
  go_enter Tryd.func20, Tryd.ntmps20
  go_wp2_with (first
    | (at_builtin; go_must (refine wpList_append_nl rfl (.tmp 20) (.tmp 29) rfl (w.heap.size + 2) (.slice (some ⟨w.heap.size + 2, 0, none⟩) 0 0) 0 [] rfl HO.out a' n (c - k) l rfl HA'.out HNM.out (by simp) ?_; intro a6 cap6 w6 ro6 gr6; have HB6 : Hid (Below (w.heap.size + 2) _ w6) := Below.own gr6 (base := w.heap.size + 2) (fun k hk => by simp [Value.ownBlock] at hk; omega) (Nat.le_refl _) (by simp); have d1 := (HB6.out.block (w.heap.size) (by omega)).trans H0.out.1; have d2 := (HB6.out.block (w.heap.size + 1) (by omega)).trans H0.out.2; have RO := hide1 ro6; clear ro6 gr6; obtain ⟨c1, c2, _, _⟩ := box2 d1; obtain ⟨e1, e2, e3, e4⟩ := box2 d2; have D2 := hide1 d2; clear d1 d2)))
  have ho := ow_own (l := l) (n := n) HLP.out (by simpa using RO.out)
  refine ret_ctt Tryd.results20 (w.heap.size + 1) _ _ _ _ rfl rfl rfl (set2 D2.out _ _) rfl ⟨a6, n, cap6, by rw [HP.out.1, HP.out.2.1]; rfl, ?_, ?_⟩
  · rw [HP.out.2.2]
    exact (ho.kp (((Kp.refl (fun j _ => j = w.heap.size + 1) w6).setCell ⟨w.heap.size + 1, 0, none⟩ (fun _ _ => rfl) _).setCell ⟨w.heap.size + 1, 1, none⟩ (fun _ _ => rfl) _) (fun j o hj => by rw [hj]; omega)).mono (by omega)
  · exact ((HB.out.trans (HB6.out.mono (by omega))).setCell (by show w.heap.size ≤ w.heap.size + 1; omega) _).setCell (by show w.heap.size ≤ w.heap.size + 1; omega) _

theorem rtake_any (a : Option Addr) (c k : Nat) (n : Int) (ws : List Nat) (w : World) (ha : Nl w ws.length a ws) (hc : ws.length ≤ c) (hk : k ≤ ws.length) (hL : ws.length ≤ 1048576) :
    Calls Tryd.prog 20 #[.agg #[.slice a ws.length c, .int .i64 (k : Int)], .int .i64 n] w (RTakePost w (.slice a ws.length c) k n ws) := by
  by_cases h1 : n < 0
  · exact rtake_neg a ws.length c k n ws w h1
  · obtain ⟨m, rfl⟩ : ∃ m : Nat, n = m := ⟨n.toNat, by omega⟩
    by_cases h2 : ws.length < k + m
    · exact rtake_far a c k m ws w hk hL h2
    · exact rtake_yes a c k m ws w ha hc hL (by omega)

/- Skip -/
def skipC (n : Int) (k L : Nat) : Int := if n < k then 1 else if (L : Int) < n then 10 else 0
def skipK (n : Int) (k L : Nat) : Nat := if n < k then k else if (L : Int) < n then k else n.toNat

def SkipPost (w : World) (t b k : Nat) (n : Int) (L : Nat) (e : Ending) (w' : World) : Prop :=
  ∃ v, e = .returned v ∧ IsE w' (skipC n k L) v ∧ Tp w' t b (skipK n k L) L ∧ Kp (fun j _ => j = t) w w'

set_option maxHeartbeats 2000000 in
theorem skip_any (t b k L : Nat) (n : Int) (w : World) (ht : Tp w t b k L) :
    Calls Tryd.prog 18 #[.pointer (some ⟨t, 0, none⟩), .int .i64 n] w (SkipPost w t b k n L) := by
  have HI := hide1 (isNone_no t b k L w ht)
  have h1 := ht.c1
  have h2 := ht.c2
  have f2 := ht.free 2
  have HT := hide1 ht
  clear ht
  by_cases hn : n < k
  · have HP : Shy (skipC n k L = 1 ∧ skipK n k L = k) := ⟨by simp only [skipC, skipK, if_pos hn, and_self]⟩
    have HW := hide1 (wrong_any 1 w rfl)
    go_enter Tryd.func18, Tryd.ntmps18
    go_wp2_with fail
    refine HI.out.mono ?_
    rintro e w0 ⟨rfl, hw0⟩
    cases hw0
    go_wp2_with fail
    refine HW.out.mono ?_
    rintro e w1 ⟨v, rfl, rfl, h3, h4⟩
    have H := hide1 (And.intro h3 h4)
    clear h3 h4
    go_wp2
    go_ret
    exact ⟨_, rfl, by rw [HP.out.1]; exact .inr ⟨rfl, _, rfl, H.out.1⟩, by rw [HP.out.2]; exact HT.out.below H.out.2 HT.out.lt, Kp.ofBelow H.out.2⟩
  · obtain ⟨m, rfl⟩ : ∃ m : Nat, n = m := ⟨n.toNat, by omega⟩
    by_cases hm : (L : Int) < (m : Int)
    · have HP : Shy (skipC m k L = 10 ∧ skipK m k L = k) := ⟨by simp only [skipC, skipK, if_neg hn, if_pos hm, and_self]⟩
      have HW := hide1 (wrong_any 10 w rfl)
      have d1 : decide (m < k) = false := by simp; omega
      have d2 : decide (L < m) = true := by simp; omega
      clear hn hm
      go_enter Tryd.func18, Tryd.ntmps18
      go_wp2_with fail
      refine HI.out.mono ?_
      rintro e w0 ⟨rfl, hw0⟩
      cases hw0
      go_wp2_with fail
      refine HW.out.mono ?_
      rintro e w1 ⟨v, rfl, rfl, h3, h4⟩
      have H := hide1 (And.intro h3 h4)
      clear h3 h4
      go_wp2
      go_ret
      exact ⟨_, rfl, by rw [HP.out.1]; exact .inr ⟨rfl, _, rfl, H.out.1⟩, by rw [HP.out.2]; exact HT.out.below H.out.2 HT.out.lt, Kp.ofBelow H.out.2⟩
    · have HP : Shy (skipC m k L = 0 ∧ skipK m k L = m) := ⟨by simp only [skipC, skipK, if_neg hn, if_neg hm, Int.toNat_natCast, and_self]⟩
      have d1 : decide (m < k) = false := by simp; omega
      have d2 : decide (L < m) = false := by simp; omega
      have HM : Shy (m ≤ L) := ⟨by omega⟩
      clear hn hm
      go_enter Tryd.func18, Tryd.ntmps18
      go_wp2_with fail
      refine HI.out.mono ?_
      rintro e w0 ⟨rfl, hw0⟩
      cases hw0
      go_wp2
      go_ret
      exact ⟨_, rfl, by rw [HP.out.1]; exact IsE.nil _, by rw [HP.out.2]; exact HT.out.set HM.out, (Kp.refl _ _).setCell _ (fun _ _ => rfl) _⟩

set_option maxHeartbeats 1000000 in
theorem skip_none (x : Value) (n : Int) (w : World) (h : No w x) :
    Calls Tryd.prog 18 #[x, .int .i64 n] w fun e w' => e = .returned (.iface 93 (.pointer (some ⟨w.heap.size, 0, none⟩))) ∧ Rt w' w.heap.size 3 ∧ Below w.heap.size w w' := by
  have HI := hide1 (isNone_yes x w h)
  have HW := hide1 (wrong_any 3 w rfl)
  clear h
  go_enter Tryd.func18, Tryd.ntmps18
  go_wp2_with fail
  refine HI.out.mono ?_
  rintro e w0 ⟨rfl, hw0⟩
  cases hw0
  go_wp2_with fail
  refine HW.out.mono ?_
  rintro e w1 ⟨v, rfl, rfl, h1, h2⟩
  have H := hide1 (And.intro h1 h2)
  clear h1 h2
  go_wp2
  go_ret
  exact ⟨rfl, H.out.1, H.out.2⟩

def RSkipPost (w : World) (s : Value) (k : Nat) (n : Int) (L : Nat) (e : Ending) (w' : World) : Prop :=
  e = .returned (.tuple #[.agg #[s, .int .i64 (skipK n k L : Nat)], .int .i64 (skipC n k L)]) ∧ Below w.heap.size w w'

set_option maxHeartbeats 2000000 in
theorem rskip_any (a : Option Addr) (c k L : Nat) (n : Int) (w : World) :
    Calls Tryd.prog 24 #[.agg #[.slice a L c, .int .i64 (k : Int)], .int .i64 n] w (RSkipPost w (.slice a L c) k n L) := by
  by_cases hn : n < k
  · have HP : Shy (skipC n k L = 1 ∧ skipK n k L = k) := ⟨by simp only [skipC, skipK, if_pos hn, and_self]⟩
    go_enter Tryd.func24, Tryd.ntmps24
    go_wp2
    exact ret_ct Tryd.results24 (w.heap.size + 1) _ _ _ rfl rfl (heap_alloc2_new _ _ _) rfl ⟨by rw [HP.out.1, HP.out.2]; rfl, ((Below.refl _ _).alloc (Nat.le_refl _) _).alloc (by simp) _⟩
  · obtain ⟨m, rfl⟩ : ∃ m : Nat, n = m := ⟨n.toNat, by omega⟩
    by_cases hm : (L : Int) < (m : Int)
    · have HP : Shy (skipC m k L = 10 ∧ skipK m k L = k) := ⟨by simp only [skipC, skipK, if_neg hn, if_pos hm, and_self]⟩
      have d1 : decide (m < k) = false := by simp; omega
      have d2 : decide (L < m) = true := by simp; omega
      clear hn hm
      go_enter Tryd.func24, Tryd.ntmps24
      go_wp2
      exact ret_ct Tryd.results24 (w.heap.size + 1) _ _ _ rfl rfl (heap_alloc2_new _ _ _) rfl ⟨by rw [HP.out.1, HP.out.2]; rfl, ((Below.refl _ _).alloc (Nat.le_refl _) _).alloc (by simp) _⟩
    · have HP : Shy (skipC m k L = 0 ∧ skipK m k L = m) := ⟨by simp only [skipC, skipK, if_neg hn, if_neg hm, Int.toNat_natCast, and_self]⟩
      have d1 : decide (m < k) = false := by simp; omega
      have d2 : decide (L < m) = false := by simp; omega
      clear hn hm
      go_enter Tryd.func24, Tryd.ntmps24
      go_wp2
      exact ret_ct Tryd.results24 (w.heap.size + 1) _ _ _ rfl rfl (heap_alloc2_new _ _ _) rfl ⟨by rw [HP.out.1, HP.out.2]; rfl, ((Below.refl _ _).alloc (Nat.le_refl _) _).alloc (by simp) _⟩

end Go.Proofs.YtdkakodlkbkhnaaDoor
