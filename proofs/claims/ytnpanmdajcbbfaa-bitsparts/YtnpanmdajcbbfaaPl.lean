/- For BitsParts: boxes of bits, lists put behind each other. -/
import Derived.Test.YtnpanmdajcbbfaaPk
namespace Go.Proofs.Ytnpanmdajcbbfaa
open Go.RowKit
set_option maxRecDepth 100000
attribute [local go_sem] not_any mf_any field_words

/- boxes that hold bits: where, how many, their words, which -/
def Ab (W : World) (e : Nat × Nat × Option Addr × List Bool) : Prop := Vc 0 W e.2.1 e.2.2.1 e.2.2.2 ∧ W.heap[e.1]? = some (.cells #[.int .i64 (e.2.1 : Int), .slice e.2.2.1 (need e.2.1 64) (need e.2.1 64)] 26 (0, 0))
structure Abs (B : World) (ts : List (Nat × Nat × Option Addr × List Bool)) (W : World) : Prop where
  all : ∀ e ∈ ts, Ab W e
  bl : Below B.heap.size B W

theorem Abs.next {B W W' : World} {ts : List (Nat × Nat × Option Addr × List Bool)} (h : Abs B ts W) (hb : Below W.heap.size W W') : Abs B ts W' :=
  ⟨fun e he => ⟨(h.all e he).1.below hb (Nat.le_refl _), (hb.block _ (lt_heap (h.all e he).2)).trans (h.all e he).2⟩, h.bl.trans (hb.mono h.bl.size)⟩

theorem Abs.put {B W : World} {n b : Nat} {a : Option Addr} {l : List Bool} {ts : List (Nat × Nat × Option Addr × List Bool)} (h : Abs B ts W) (hv : Vc b W n a l) :
    Abs B ((W.heap.size, n, a, l) :: ts) (W.alloc (.cells #[.int .i64 (n : Int), .slice a (need n 64) (need n 64)] 26)) := by
  have h' := h.next (below_alloc1 W (.cells #[.int .i64 (n : Int), .slice a (need n 64) (need n 64)] 26))
  refine ⟨fun e he => ?_, h'.bl⟩
  rcases List.mem_cons.1 he with rfl | he
  · exact ⟨(hv.mono (Nat.zero_le _)).alloc _, heap_alloc_new _ _⟩
  · exact h'.all e he

theorem Abs.box {B W : World} {ts : List (Nat × Nat × Option Addr × List Bool)} (h : Abs B ts W) {t n : Nat} {a : Option Addr} {l : List Bool} (he : (t, n, a, l) ∈ ts) :
    W.cell? ⟨t, 0, none⟩ = some (.int .i64 (n : Int)) ∧ W.cell? ⟨t, 1, none⟩ = some (.slice a (need n 64) (need n 64)) ∧ t < W.heap.size := by
  obtain ⟨c0, c1, _, _, c4⟩ := box2 (h.all _ he).2
  exact ⟨c0, c1, c4⟩

theorem Abs.vc {B W : World} {ts : List (Nat × Nat × Option Addr × List Bool)} (h : Abs B ts W) {t n : Nat} {a : Option Addr} {l : List Bool} (he : (t, n, a, l) ∈ ts) : Vc 0 W n a l := (h.all _ he).1

/- three of them in a list -/
theorem vs3 {W : World} {gs n0 n1 n2 : Nat} {a0 a1 a2 : Option Addr} {l0 l1 l2 : List Bool}
    (hg : W.heap[gs]? = some (.cells #[.int .i64 (n0 : Int), .slice a0 (need n0 64) (need n0 64), .int .i64 (n1 : Int), .slice a1 (need n1 64) (need n1 64), .int .i64 (n2 : Int), .slice a2 (need n2 64) (need n2 64)] 26 (0, 0)))
    (h0 : Vc 0 W n0 a0 l0) (h1 : Vc 0 W n1 a1 l1) (h2 : Vc 0 W n2 a2 l2) : Vs W gs 3 [(n0, a0, l0), (n1, a1, l1), (n2, a2, l2)] := by
  refine ⟨rfl, fun k n a l hk => ?_⟩
  rw [cell_of_row W gs _ _ _ _ hg, cell_of_row W gs _ _ _ _ hg]
  match k, hk with
  | 0, hk => cases hk; exact ⟨rfl, rfl, h0⟩
  | 1, hk => cases hk; exact ⟨rfl, rfl, h1⟩
  | 2, hk => cases hk; exact ⟨rfl, rfl, h2⟩
  | k + 3, hk => simp at hk

/- truths put behind a row of the call's own -/
theorem run_append_empty {P : Program} {w : World} (base : Nat) (t ty e : TypeId) (i : TypeInfo) (size : Nat) (ht : P.underlying t = some (.slice e)) (hi : P.info? e = some i)
    (v : Value) (n : Nat) (xs : List Value) (hown : w.ownsRow base e size v n xs) (a : Option Addr) (c : Nat) :
    (Builtin.append_ #[t, t] ty #[v, .slice a 0 c]).run P w = .ok v w := by
  have hl : ∀ (x : Addr), (loadCells x 0).run P w = .ok #[] w := fun x => by simpa using run_loadCells_list (P := P) w x [] (by simp)
  rcases hown.2 with ⟨rfl, rfl⟩ | ⟨g, cap, cur, rfl, _, _, hnc, _⟩
  · cases a <;> simp [Builtin.append_, run_underlying ht, sizeOf, typeInfo, hi, Builtin.lenOf, Builtin.firstCells, hl]
  · cases a <;> simp [Builtin.append_, run_underlying ht, sizeOf, typeInfo, hi, Builtin.lenOf, Builtin.firstCells, hnc, storeCells, hl]

theorem wpList_append_bl {w : World} {ops : Array Oper} {rest : List Oper} {o : Oper} {act : Act} {Q : Exit → Act → World → Prop} (hgd : o.guard = none) (s x : Operand)
    (ho : o.op = .call { callee := .builtin .append, args := #[s, x], argTypes := #[22, 22] })
    (base : Nat) (v : Value) (n : Nat) (xs : List Bool) (hs : act.eval s = v) (hown : w.ownsRow base 4 1 v n (bools xs)) (a : Option Addr) (m c : Nat) (l : List Bool) (hx : act.eval x = .slice a m c) (hl : Bl w m a l)
    (hle : n + m ≤ 4000) (hbase : base ≤ w.heap.size)
    (h : ∀ v' w', w'.ownsRow base 4 1 v' (n + m) (bools (xs ++ l)) → w.grownBy w' v.ownBlock → wpList Try.prog ops Q rest (act.put o.dst v') w') : wpList Try.prog ops Q (o :: rest) act w := by
  obtain ⟨i0, hi, hz0, hz1, hz2⟩ := info_parts info4
  by_cases h0 : m = 0
  · subst h0
    obtain rfl : l = [] := List.eq_nil_of_length_eq_zero hl.len
    refine wpList_plain hgd fun K hK => ?_
    have hrun := run_append_empty (P := Try.prog) (w := w) base 22 o.type 4 i0 1 Try.underlying22 hi v n _ hown a c
    unfold Oper.wp
    simp [execOp, ho, resolve, invoke, builtin, hs, hx, hrun, Result.andThen]
    exact hK _ _ (h v w (by simpa using hown) (World.grownBy.refl _ _))
  · obtain ⟨y, hy⟩ : ∃ y, l[0]? = some y := ⟨_, List.getElem?_eq_getElem (by rw [hl.len]; omega)⟩
    obtain ⟨g, off, rfl, _⟩ := hl.at' 0 y hy
    refine wpList_append_own w hgd s x 22 ho base 4 i0 (.bool false) 1 1 Try.underlying22 hi hz0 hz1 hz2 rfl (by decide) v n _ hs hown ⟨g, off, none⟩ m c (bools l) hx (by simp [bools, hl.len]) (bl_news hl) (bools_one l) (by unfold maxLen; omega) (by omega) hbase ?_
    intro v' w' h1 h2 _
    exact h v' w' (by simpa [bools] using h1) h2

theorem parts_else (w : World) (n m k c c' c'' : Nat) (a b d : Option Addr) (p t : Int) (h : 600 < n ∨ (n ≤ 600 ∧ 600 < m) ∨ (n ≤ 600 ∧ m ≤ 600 ∧ 600 < k)) :
    Calls Try.prog 6 #[.slice a n c, .int .i64 p, .int .i64 t, .slice b m c', .slice d k c''] w fun e w' => e = .returned (.bool true) ∧ Below w.heap.size w w' := by
  have hA := fun w => hide1 (awake_any w)
  rcases h with h | ⟨h, h'⟩ | ⟨h, h', h''⟩
  · have h1 : (600 : Int) < (n : Int) := by omega
    go_enter Try.func6, Try.ntmps6
    go_wp2_with fail
    refine (hA _).out.mono ?_
    rintro e w1 ⟨rfl, hb⟩
    go_wp2
    go_ret
    exact ⟨rfl, hb⟩
  · have h1 : ¬ (600 : Int) < (n : Int) := by omega
    have h2 : (600 : Int) < (m : Int) := by omega
    go_enter Try.func6, Try.ntmps6
    go_wp2_with fail
    refine (hA _).out.mono ?_
    rintro e w1 ⟨rfl, hb⟩
    go_wp2
    go_ret
    exact ⟨rfl, hb⟩
  · have h1 : ¬ (600 : Int) < (n : Int) := by omega
    have h2 : ¬ (600 : Int) < (m : Int) := by omega
    have h3 : (600 : Int) < (k : Int) := by omega
    go_enter Try.func6, Try.ntmps6
    go_wp2_with fail
    refine (hA _).out.mono ?_
    rintro e w1 ⟨rfl, hb⟩
    go_wp2
    go_ret
    exact ⟨rfl, hb⟩

end Go.Proofs.Ytnpanmdajcbbfaa
