/- The document's Waiting. The document's Filled. Stores into the midst of an end; a list cut; a step of Filled. -/
import Derived.Test.YtcadlcpccemkbaaGreatDoorMDnDp
namespace Go.Proofs.YtcadlcpccemkbaaGreatDoor
open Go.RowKit
set_option maxRecDepth 100000
attribute [local go_sem] not_any

set_option maxHeartbeats 2000000 in
theorem rwaiting_any (x : Ls) (LL : List ByteArray) (LLv hv lv : Value) (w : World) (h : Rf x LL LLv hv lv w) (hQ : x.Q.length ≤ 64) :
    Calls Tryz.prog 33 #[rv x LLv hv lv] w fun e w' => e = .returned (.int .i64 ((x.Q.length + x.A.length : Nat) : Int)) ∧ Below w.heap.size w w' := by
  obtain ⟨la, lc, hlv, _⟩ := h.ql
  obtain ⟨ba, bc, hbv, _⟩ := h.ll
  have hll := h.ll
  have HA : Hid ((LL.drop x.k) = x.A) := h.eq
  have lA : x.A.length ≤ 1000 := by rw [← h.eq, List.length_drop]; have := h.mx; omega
  have hmx := h.mx
  have hle := h.le
  unfold rv rcs
  obtain ⟨q, hq⟩ : ∃ q, x.Q.length = q := ⟨_, rfl⟩
  obtain ⟨bn, hbn⟩ : ∃ q, LL.length = q := ⟨_, rfl⟩
  rw [hq] at hlv hQ ⊢
  rw [hbn] at hbv hmx hle
  subst hlv hbv
  have KP := hide1 (fun W (hb : Below w.heap.size w W) => rpending_any 0 bn x.k bc ba (hll.below hb (Nat.le_refl _)) (by omega) (by omega) hle)
  obtain ⟨P, hP⟩ : ∃ P : World → Prop, P = fun w' => Below w.heap.size w w' := ⟨_, rfl⟩
  clear h hll hq hbn
  have wr1 : IntKind.i64.wrap ((q : Int) + (x.A.length : Int)) = (q : Int) + (x.A.length : Int) := by rw [IntKind.wrap_i64]; omega
  go_enter Tryz.func33, Tryz.ntmps33
  go_upto_region 1 with (fail)
  generalize hX : World.alloc w _ = W0
  have B0 : Hid (Below w.heap.size w W0) := by rw [← hX]; exact below1 _
  have R0 := hide1 (hX ▸ heap_alloc_new w _)
  obtain ⟨g1, hg1⟩ : ∃ g, w.heap.size = g := ⟨_, rfl⟩
  rw [hg1] at R0 ⊢
  clear hX hg1
  have CL : Hid (∀ W', Below W0.heap.size W0 W' → W'.cell? ⟨g1, 8, none⟩ = some (.slice la q lc) ∧ W'.cell? ⟨g1, 3, none⟩ = some (.int .i64 0) ∧ W'.cell? ⟨g1, 4, none⟩ = some (.slice ba bn bc) ∧ W'.cell? ⟨g1, 5, none⟩ = some (.int .i64 (x.k : Int))) := fun W' hb => by
    obtain ⟨⟨_, _, _, c3, c4⟩, ⟨c5, _, _, c8, _⟩, _, _⟩ := box10 ((hb.block _ (lt_heap R0.out)).trans R0.out)
    exact ⟨c8, c3, c4, c5⟩
  have kP := hide1 (fun W (hb : Below W0.heap.size W0 W) => KP.out W (B0.out.trans (hb.mono B0.out.size)))
  clear KP R0
  refine region_f (F := []) (S := fun W' => Below W0.heap.size W0 W') (by kernel_rfl) (Below.refl _ _).drew (fun hS => ?_)
  refine take_p 0 3 (.pointer (some ⟨g1, 8, none⟩)) rfl rfl (by kernel_rfl) (by kernel_rfl) (by kernel_rfl) (fun _ _ _ h => h) rfl (fun w => by go_simp) ?_
  try simp only [List.setIfInBounds_toArray, List.set_cons_zero, List.set_cons_succ]
  refine take_f 1 4 (.slice la q lc) [2, 7, 8] rfl rfl (by kernel_rfl) (by kernel_rfl) (by kernel_rfl) (by kernel_rfl) (by kernel_rfl) (by kernel_rfl) (fun _ _ _ h => h) rfl (fun w hSw => by have h1 := (CL.out _ hSw).1; go_simp) hS ?_
  try simp only [List.setIfInBounds_toArray, List.set_cons_zero, List.set_cons_succ]
  refine take_p 2 5 (.int .i64 (q : Int)) rfl rfl (by kernel_rfl) (by kernel_rfl) (by kernel_rfl) (fun _ _ _ h => h) rfl (fun w => by go_simp) ?_
  try simp only [List.setIfInBounds_toArray, List.set_cons_zero, List.set_cons_succ]
  refine take_p 3 6 (.pointer (some ⟨g1, 3, none⟩)) rfl rfl (by kernel_rfl) (by kernel_rfl) (by kernel_rfl) (fun _ _ _ h => h) rfl (fun w => by go_simp) ?_
  try simp only [List.setIfInBounds_toArray, List.set_cons_zero, List.set_cons_succ]
  refine take_f 4 7 (.agg #[.int .i64 0, .slice ba bn bc, .int .i64 (x.k : Int)]) [5, 6, 7, 8] rfl rfl (by kernel_rfl) (by kernel_rfl) (by kernel_rfl) (by kernel_rfl) (by kernel_rfl) (by kernel_rfl) (fun _ _ _ h => h) rfl (fun w hSw => by have h1 := (CL.out _ hSw).2.1; have h2 := (CL.out _ hSw).2.2.1; have h3 := (CL.out _ hSw).2.2.2; go_simp) hS ?_
  try simp only [List.setIfInBounds_toArray, List.set_cons_zero, List.set_cons_succ]
  refine ready_f 5 (o := { dst := some 8, op := Op.call { callee := Callee.value (Operand.func 56), args := #[Operand.tmp 7], argTypes := #[34] }, type := 35, pos := "ref.go:42", after := #[{ on := 4, ground := Ground.data }], guard := none }) (by kernel_rfl) rfl (fun K hK => ?_)
  go_simp
  refine (kP.out _ hS).mono ?_
  rintro e w1 ⟨z, rfl, hz, hb1⟩
  obtain ⟨za, zc, rfl⟩ := hz.form
  rw [pend_length, HA.out] at *
  have hS1 := hS.trans (hb1.mono hS.size)
  refine hK.out _ _ (fun _ _ => hS1) ?_
  clear hK K
  try simp only [Act.put, List.setIfInBounds_toArray, List.set_cons_zero, List.set_cons_succ]
  refine take_p 6 9 (.int .i64 (x.A.length : Int)) rfl rfl (by kernel_rfl) (by kernel_rfl) (by kernel_rfl) (fun _ _ _ h => h) rfl (fun w => by go_simp) ?_
  try simp only [List.setIfInBounds_toArray, List.set_cons_zero, List.set_cons_succ]
  refine take_p 7 10 (.int .i64 ((q : Int) + (x.A.length : Int))) rfl rfl (by kernel_rfl) (by kernel_rfl) (by kernel_rfl) (fun _ _ _ h => h) rfl (fun w => by go_simp) ?_
  try simp only [List.setIfInBounds_toArray, List.set_cons_zero, List.set_cons_succ]
  refine take_p 8 2 (.int .i64 ((q : Int) + (x.A.length : Int))) rfl rfl (by kernel_rfl) (by kernel_rfl) (by kernel_rfl) (fun _ _ _ h => h) rfl (fun w => by go_simp) ?_
  try simp only [List.setIfInBounds_toArray, List.set_cons_zero, List.set_cons_succ]
  refine done_f (by kernel_rfl) ?_ _
  have HS1 := hide1 (B0.out.trans (hS1.mono B0.out.size))
  clear hS hS1
  go_wp2
  go_ret
  exact ⟨rfl, HS1.out⟩
end Go.Proofs.YtcadlcpccemkbaaGreatDoor

namespace Go.Proofs.YtcadlcpccemkbaaGreatDoor
open Go.RowKit
set_option maxRecDepth 100000
attribute [local go_sem] not_any

/- behind Put: its answer in a box, apart from what it reads -/
structure Md (Z : World) (k : Nat) (LN LO : List ByteArray) (old u : Value) (g5 : Nat) (WF : World) : Prop where
  row : WF.heap[g5]? = some (.cells #[.int .i64 0, u, .int .i64 (k : Int)] 34 (0, 0))
  rd : Rdl WF u LN
  bl : LN ≠ [] → ∀ b, u.ownBlock = some b → (old.ownBlock = some b ∧ b < Z.heap.size ∧ LO ≠ []) ∨ Z.heap.size ≤ b
  ne : LN ≠ [] → u.ownBlock ≠ some g5
  bel : Below Z.heap.size Z WF
  le : Z.heap.size ≤ g5
theorem kp_setRow (w : World) (b : Nat) (cs : Array Value) : Kp (fun g => g = b) w (w.setRow b cs) := ⟨rfl, rfl, rfl, by simp [World.setRow], fun g _ hn => setRow_other w b g cs hn⟩
theorem md_a {Z w1 : World} {k : Nat} {LN LO : List ByteArray} {old u : Value} (hS : Below Z.heap.size Z w1) (hu : Rdl w1 u LN) (hub : LN ≠ [] → ∀ b, u.ownBlock = some b → (old.ownBlock = some b ∧ b < Z.heap.size ∧ LO ≠ []) ∨ Z.heap.size ≤ b) :
    Md Z k LN LO old u w1.heap.size ((w1.alloc (.cells #[.int .i64 0, .slice none 0 0, .int .i64 0] 34)).setRow w1.heap.size #[.int .i64 0, u, .int .i64 (k : Int)]) := by
  have hne : LN ≠ [] → u.ownBlock ≠ some w1.heap.size := fun h e => by have := hu.lt h e; omega
  exact ⟨setRow_heap _ _ _ _ _ _ (heap_alloc_new w1 _), ((hu.below (below1 _) (Nat.le_refl _)).kp2 (kp_setRow _ _ _) (fun h b e e2 => hne h (by rw [e, e2]))), hub, hne, below_setRow (hS.alloc hS.size _) hS.size _, hS.size⟩
theorem md_b {Z w1 : World} {k : Nat} {c0 : Array Value} {LN LO : List ByteArray} {old u : Value} (hS : Below Z.heap.size Z w1) (row : w1.heap[Z.heap.size]? = some (.cells c0 34 (0, 0))) (hu : Rdl w1 u LN) (hub : LN ≠ [] → ∀ b, u.ownBlock = some b → (old.ownBlock = some b ∧ b < Z.heap.size ∧ LO ≠ []) ∨ Z.heap.size + 1 ≤ b) :
    Md Z k LN LO old u Z.heap.size (w1.setRow Z.heap.size #[.int .i64 0, u, .int .i64 (k : Int)]) := by
  have hne : LN ≠ [] → u.ownBlock ≠ some Z.heap.size := fun h e => by rcases hub h _ e with h1 | h1 <;> omega
  exact ⟨setRow_heap _ _ _ _ _ _ row, hu.kp2 (kp_setRow _ _ _) (fun h b e e2 => hne h (by rw [e, e2])), fun h b e => (hub h b e).imp id (fun h => by omega), hne, below_setRow hS (Nat.le_refl _) _, Nat.le_refl _⟩
/- Filled on its way -/
structure Fst (x : Ls) (LL : List ByteArray) (LLv hv lv : Value) (g : Nat) (w wr : World) (j : Nat) (L' l' zv : Value) : Prop where
  box : wr.heap[g]? = some (.cells (rcs x L' hv l') 39 (0, 0))
  ret : ∃ c0 : Array Value, c0.size = 10 ∧ wr.heap[g + 1]? = some (.cells c0 39 (0, 0))
  ll : Rdl wr L' (LL ++ x.Q.take j)
  ql : Rdl wr l' (x.Q.drop j)
  lo : x.Q.drop j ≠ [] → ∀ b, l'.ownBlock = some b → lv.ownBlock = some b ∧ b < g
  bo : (LL ++ x.Q.take j) ≠ [] → ∀ b, L'.ownBlock = some b → (LL ≠ [] ∧ LLv.ownBlock = some b ∧ b < g) ∨ g + 2 ≤ b
  zl : Nls 175 (g + 2) wr zv (pend (x.k + x.A.length + 1) (x.Q.take j))
  dz : (LL ++ x.Q.take j) ≠ [] → ∀ b, L'.ownBlock = some b → zv.ownBlock ≠ some b
  bel : Below g w wr
  cp : Cp l'
theorem Fst.below {x : Ls} {LL : List ByteArray} {LLv hv lv : Value} {g : Nat} {w wr wr' : World} {j : Nat} {L' l' zv : Value} (h : Fst x LL LLv hv lv g w wr j L' l' zv) (hb : Below wr.heap.size wr wr') : Fst x LL LLv hv lv g w wr' j L' l' zv := by
  obtain ⟨c0, h1, h2⟩ := h.ret
  exact ⟨(hb.block _ (lt_heap h.box)).trans h.box, ⟨c0, h1, (hb.block _ (lt_heap h2)).trans h2⟩, h.ll.below hb (Nat.le_refl _), h.ql.below hb (Nat.le_refl _), h.lo, h.bo, h.zl.below hb (Nat.le_refl _), h.dz, h.bel.trans (hb.mono (Nat.le_of_lt (lt_heap h.box))), h.cp⟩

theorem fst_end {N : Nat} {x : Ls} {LL : List ByteArray} {LLv hv lv : Value} {g : Nat} {w wr : World} {L' l' zv : Value} {cs : Array Value} (hg : g = w.heap.size) (hf : Rf x LL LLv hv lv w) (hx : x.Ok N) (hm : LL.length + x.Q.length ≤ 1000) (h : Fst x LL LLv hv lv g w wr x.mvn L' l' zv) :
    Rfp x LL LLv hv lv w x.mv (LL ++ x.Q.take x.mvn) L' hv l' (wr.setRow (g + 1) cs) ∧ Nls 175 (w.heap.size + 2) (wr.setRow (g + 1) cs) zv x.mvd := by
  have hb : Below w.heap.size w wr := by rw [← hg]; exact h.bel
  have hmv : x.mvn ≤ x.Q.length := Nat.min_le_right _ _
  have hq : x.mv.Q = x.Q.drop x.mvn := rfl
  have hl : x.mv.l = x.l := rfl
  refine ⟨⟨⟨h.ll.kp2 (kp_setRow _ _ _) fun hn b e e2 => ?_, ?_, ?_, ?_, ?_, ?_, ?_, h.cp⟩, below_setRow hb (by omega) _, fun b hr => ?_⟩, ?_⟩
  · rcases h.bo hn b e with h1 | h1
    · omega
    · omega
  · rw [hl]
    exact (hf.hl.below hb (Nat.le_refl _)).kp2 (kp_setRow _ _ _) fun hn b e e2 => by have := hf.hl.lt hn e; omega
  · rw [hq]
    exact h.ql.kp2 (kp_setRow _ _ _) fun hn b e e2 => by have := (h.lo hn b e).2; omega
  · show x.k ≤ _
    rw [List.length_append]; have := hf.le; omega
  · show (LL ++ x.Q.take x.mvn).drop x.k = x.A ++ x.Q.take x.mvn
    rw [List.drop_append_of_le_length hf.le, hf.eq]
  · rw [List.length_append, List.length_take]; omega
  · intro s hs
    rcases List.mem_append.1 hs with h1 | h1
    · exact hf.sz s h1
    · have := hx.szQ s (List.mem_of_mem_take h1); omega
  · rcases hr with ⟨a, e⟩ | ⟨a, e⟩ | ⟨a, e⟩
    · rcases h.bo a b e with h1 | h1
      · exact .inl (.inl ⟨h1.1, h1.2.1⟩)
      · exact .inr (by omega)
    · exact .inl (.inr (.inl ⟨a, e⟩))
    · rw [hq] at a
      refine .inl (.inr (.inr ⟨fun h0 => a (by rw [h0, List.drop_nil]), (h.lo a b e).1⟩))
  · rw [← hg]
    exact h.zl.same fun b e => setRow_other _ _ _ _ (by have := (h.zl.lt e).1; omega)
end Go.Proofs.YtcadlcpccemkbaaGreatDoor

namespace Go.Proofs.YtcadlcpccemkbaaGreatDoor
open Go.RowKit
set_option maxRecDepth 100000
attribute [local go_sem] not_any

theorem set_mid3 {w : World} {g : Nat} {x0 x1 x2 x3 x4 x5 x6 x7 x8 x9 : Value} {t : TypeId} (h : w.heap[g]? = some (.cells #[x0, x1, x2, x3, x4, x5, x6, x7, x8, x9] t (0, 0))) (a b c : Value) :
    w.setCells g 3 [a, b, c] = w.setRow g #[x0, x1, x2, a, b, c, x6, x7, x8, x9] := by
  show ((w.setCell ⟨g, 3, none⟩ a).setCell ⟨g, 4, none⟩ b).setCell ⟨g, 5, none⟩ c = _
  rw [setCell_eq_setRow w g 3 _ t (0, 0) a h, setCell_eq_setRow _ g 4 _ t (0, 0) b (setRow_heap _ _ _ _ _ _ h), setRow_setRow, setCell_eq_setRow _ g 5 _ t (0, 0) c (setRow_heap _ _ _ _ _ _ h), setRow_setRow]
  rfl
theorem set_mid2 {w : World} {g : Nat} {x0 x1 x2 x3 x4 x5 x6 x7 x8 x9 : Value} {t : TypeId} (h : w.heap[g]? = some (.cells #[x0, x1, x2, x3, x4, x5, x6, x7, x8, x9] t (0, 0))) (a b : Value) :
    w.setCells g 6 [a, b] = w.setRow g #[x0, x1, x2, x3, x4, x5, a, b, x8, x9] := by
  show (w.setCell ⟨g, 6, none⟩ a).setCell ⟨g, 7, none⟩ b = _
  rw [setCell_eq_setRow w g 6 _ t (0, 0) a h, setCell_eq_setRow _ g 7 _ t (0, 0) b (setRow_heap _ _ _ _ _ _ h), setRow_setRow]
  rfl
theorem there3 {w : World} {g : Nat} {x0 x1 x2 x3 x4 x5 x6 x7 x8 x9 : Value} {t : TypeId} (h : w.heap[g]? = some (.cells #[x0, x1, x2, x3, x4, x5, x6, x7, x8, x9] t (0, 0))) : w.there g 3 3 := by
  obtain ⟨⟨_, _, _, c3, c4⟩, ⟨c5, _⟩, f, _⟩ := box10 h
  intro j hj
  rcases (show j = 0 ∨ j = 1 ∨ j = 2 by omega) with rfl | rfl | rfl
  · exact ⟨by rw [c3]; rfl, f 3⟩
  · exact ⟨by rw [c4]; rfl, f 4⟩
  · exact ⟨by rw [c5]; rfl, f 5⟩
theorem there2 {w : World} {g : Nat} {x0 x1 x2 x3 x4 x5 x6 x7 x8 x9 : Value} {t : TypeId} (h : w.heap[g]? = some (.cells #[x0, x1, x2, x3, x4, x5, x6, x7, x8, x9] t (0, 0))) : w.there g 6 2 := by
  obtain ⟨_, ⟨_, c6, c7, _⟩, f, _⟩ := box10 h
  intro j hj
  rcases (show j = 0 ∨ j = 1 by omega) with rfl | rfl
  · exact ⟨by rw [c6]; rfl, f 6⟩
  · exact ⟨by rw [c7]; rfl, f 7⟩
theorem rowbox3 {w : World} {g : Nat} {x0 x1 x2 : Value} {t : TypeId} (h : w.heap[g]? = some (.cells #[x0, x1, x2] t (0, 0))) : w.cell? ⟨g, 0, none⟩ = some x0 ∧ w.cell? ⟨g, 1, none⟩ = some x1 ∧ w.cell? ⟨g, 2, none⟩ = some x2 :=
  ⟨by rw [cell_of_row w g 0 _ _ _ h]; rfl, by rw [cell_of_row w g 1 _ _ _ h]; rfl, by rw [cell_of_row w g 2 _ _ _ h]; rfl⟩
theorem rowbox2 {w : World} {g : Nat} {x0 x1 : Value} {t : TypeId} (h : w.heap[g]? = some (.cells #[x0, x1] t (0, 0))) : w.cell? ⟨g, 0, none⟩ = some x0 ∧ w.cell? ⟨g, 1, none⟩ = some x1 :=
  ⟨by rw [cell_of_row w g 0 _ _ _ h]; rfl, by rw [cell_of_row w g 1 _ _ _ h]; rfl⟩
/- a list from its second on -/
theorem run_from1 (g o n c : Nat) (h1 : 1 ≤ n) (h2 : n ≤ c) : ∃ ac, (∀ w, (Instr.slice 32 (.slice (some ⟨g, o, none⟩) n c) (some (.int .i64 1)) none none).run Tryz.prog w = .ok (.slice ac (n - 1) (c - 1)) w) ∧ (∃ o', ac = some ⟨g, o', none⟩) ∧ ∀ (w : World) (A : List ByteArray), Rdl w (.slice (some ⟨g, o, none⟩) n c) A → Rdl w (.slice ac (n - 1) (c - 1)) (A.drop 1) := by
  have a1 : (1 : Int) ≤ (n : Int) := by omega
  refine ⟨if c = 1 then some ⟨g, o, none⟩ else some ⟨g, o + 1, none⟩, fun w => ?_, ?_, fun w A h => ?_⟩
  · by_cases hc : c = 1
    · simp [Instr.slice, run_underlying Tryz.underlying32, Instr.sliceBounds, run_sliceBound, Addr.add, a1, hc]
    · simp [Instr.slice, run_underlying Tryz.underlying32, Instr.sliceBounds, run_sliceBound, Addr.add, a1, hc]
  · split
    · exact ⟨_, rfl⟩
    · exact ⟨_, rfl⟩
  · obtain ⟨a', c', e, hc⟩ := h
    cases e
    refine ⟨if c = 1 then some ⟨g, o, none⟩ else some ⟨g, o + 1, none⟩, c - 1, by rw [List.length_drop], fun j hj => ?_⟩
    rw [List.length_drop] at hj
    obtain ⟨g', o', e, h3⟩ := hc (j + 1) (by omega)
    cases e
    refine ⟨g, o + 1, by rw [if_neg (by omega)], ?_⟩
    rw [show o + 1 + j = o + (j + 1) by omega, h3]
    congr 2
    rw [List.getD_eq_getElem?_getD, List.getD_eq_getElem?_getD, List.getElem?_drop, Nat.add_comm 1 j]
theorem nls_len {T B : Nat} {w : World} {v : Value} {l : List (Nat × ByteArray)} (h : Nls T B w v l) : lenOf v = l.length := by
  rcases h.2 with ⟨rfl, h0⟩ | ⟨g, cap, cur, rfl, _⟩
  · exact h0.symm
  · rfl
/- a step -/
theorem Fst.step {x : Ls} {LL : List ByteArray} {LLv hv lv : Value} {g g5 : Nat} {w Z WF WE : World} {j : Nat} {L' l' l2 zv z2 u : Value} {o : Obj}
    (h : Fst x LL LLv hv lv g w Z j L' l' zv) (md : Md Z x.k (LL ++ x.Q.take (j + 1)) (LL ++ x.Q.take j) L' u g5 WF)
    (hz : Nls 175 (g + 2) WE z2 (pend (x.k + x.A.length + 1) (x.Q.take (j + 1)))) (hg : (WF.alloc o).grownBy WE zv.ownBlock) (hf : ∀ b, z2.ownBlock = some b → zv.ownBlock = some b ∨ (WF.alloc o).heap.size ≤ b)
    (hl : Rdl Z l2 (x.Q.drop (j + 1))) (hlo : l2.ownBlock = l'.ownBlock) (hcp : Cp l2) :
    Fst x LL LLv hv lv g w (WE.setRow g (rcs x u hv l2)) (j + 1) u l2 z2 := by
  have gZ := lt_heap h.box
  obtain ⟨c0, hc0, hr⟩ := h.ret
  have g1Z := lt_heap hr
  have s1 := md.bel.size
  have s2 := (below1 (w := WF) o).size
  have s3 := hg.size
  have nz : ∀ b, zv.ownBlock = some b → g + 2 ≤ b ∧ b < Z.heap.size := fun b e => h.zl.lt e
  have kE : Kp (fun b => zv.ownBlock = some b) WF WE := (Kp.ofBelow (below1 o)).trans (Kp.ofGrown hg)
  have kEz : Kp (fun b => zv.ownBlock = some b) Z WE := (Kp.ofBelow md.bel).trans kE
  have bel : Below g w WE := ((h.bel.trans (md.bel.mono (Nat.le_of_lt gZ))).alloc (by have := h.bel.size; omega) o).grown hg (by omega) (fun k hk => by have := nz k hk; omega)
  have dn : x.Q.drop (j + 1) ≠ [] → x.Q.drop j ≠ [] := fun hn e => hn (by rw [← List.drop_drop, e]; rfl)
  have lon : x.Q.drop (j + 1) ≠ [] → ∀ b, l2.ownBlock = some b → lv.ownBlock = some b ∧ b < g := fun hn b e => h.lo (dn hn) b (hlo ▸ e)
  have ub : (LL ++ x.Q.take (j + 1)) ≠ [] → ∀ b, u.ownBlock = some b → ¬ zv.ownBlock = some b := fun hn b e e2 => by
    rcases md.bl hn b e with ⟨h1, _, h3⟩ | h1
    · exact h.dz h3 b h1 e2
    · have := nz b e2; omega
  have un : (LL ++ x.Q.take (j + 1)) ≠ [] → ∀ b, u.ownBlock = some b → (LL ≠ [] ∧ LLv.ownBlock = some b ∧ b < g) ∨ g + 2 ≤ b := fun hn b e => by
    rcases md.bl hn b e with ⟨h1, _, h3⟩ | h1
    · exact h.bo h3 b h1
    · exact .inr (by omega)
  refine ⟨setRow_heap _ _ _ _ _ _ ((kEz.block g gZ (fun e => by have := nz g e; omega)).trans h.box), ⟨c0, hc0, ?_⟩, ?_, ?_, lon, un, ?_, ?_, below_setRow bel (Nat.le_refl _) _, hcp⟩
  · rw [setRow_other _ _ _ _ (by omega)]
    exact (kEz.block (g + 1) g1Z (fun e => by have := nz _ e; omega)).trans hr
  · refine (md.rd.kp2 kE ub).kp2 (kp_setRow _ _ _) fun hn b e e2 => ?_
    rcases un hn b e with h1 | h1 <;> omega
  · refine (hl.kp2 kEz fun hn b e e2 => ?_).kp2 (kp_setRow _ _ _) fun hn b e e2 => ?_
    · have h1 := (lon hn b e).2; have h2 := nz b e2; omega
    · have h1 := (lon hn b e).2; omega
  · exact hz.same fun b e => setRow_other _ _ _ _ (by have := (hz.lt e).1; omega)
  · intro hn b e e2
    rcases hf b e2 with h1 | h1
    · exact ub hn b e h1
    · have := md.rd.lt hn e; omega
end Go.Proofs.YtcadlcpccemkbaaGreatDoor
