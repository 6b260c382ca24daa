/- The program's Add, of a part that is wanted. -/
import Derived.Test.YtceemkjmmfkmdaaJ10
import Derived.Test.YtceemkjmmfkmdaaJ01
namespace Go.Proofs.Ytceemkjmmfkmdaa.St
open Go.RowKit
set_option maxRecDepth 100000
attribute [local go_sem] not_any

/- a store of a truth leaves words as they are -/
theorem Nl.setBool {w : World} {gp i m : Nat} {ps : Array Value} {t : TypeId} {a : Option Addr} {xs : List Nat} {b c : Bool} (h : Nl w m a xs) (hp : w.heap[gp]? = some (.cells ps t (0, 0))) (hb : ps[i]? = some (.bool b)) : Nl (w.setCell ⟨gp, i, none⟩ (.bool c)) m a xs := ⟨h.len, fun j x hj => by
  obtain ⟨g, o, e, hc⟩ := h.at' j x hj
  refine ⟨g, o, e, ?_⟩
  by_cases hg : g = gp
  · subst hg
    rw [cell_of_row w g _ _ _ _ hp] at hc
    rw [cell_of_row _ g _ _ _ _ (heap_setCell_same _ _ _ _ _ _ hp), Array.getElem?_setIfInBounds_ne, hc]
    intro hi
    rw [← hi, hb] at hc
    cases hc
  · have h2 : (w.setCell ⟨gp, i, none⟩ (.bool c)).heap[g]? = w.heap[g]? := heap_setCell_other _ _ _ _ hg
    unfold World.cell? at hc ⊢
    rw [h2]
    exact hc⟩
def newF (F : Nat → Prop) (a : Option Addr) (b : Nat) : Prop := F b ∨ ∃ q, a = some ⟨b, q, none⟩
theorem Jm.added {w w' : World} {g gp : Nat} {ps : Array Value} {F : Nat → Prop} {l : List Chk} {e : Nat} {st : Sts} {k m c : Nat} {a : Option Addr} {xs : List Nat} (h : Jm w g gp ps F l e st) (ho : st[k]? = some none) (hm : m ≤ 3072)
    (hs : ∀ b, b < w.heap.size → b ≠ gp → w'.heap[b]? = w.heap[b]?) (hp : w'.heap[gp]? = some (.cells ((ps.setIfInBounds (k * 3 + 1) (.bool true)).setIfInBounds (k * 3 + 2) (.slice a m c)) 72 (0, 0)))
    (hn : Nl w' m a xs) (ha : ∀ b q, a = some ⟨b, q, none⟩ → w.heap.size ≤ b) (hal : ∀ b q, a = some ⟨b, q, none⟩ → b < w'.heap.size) (hsz : w.heap.size ≤ w'.heap.size) :
    Jm w' g gp ((ps.setIfInBounds (k * 3 + 1) (.bool true)).setIfInBounds (k * 3 + 2) (.slice a m c)) (newF F a) l e (st.set k (some xs)) := by
  have lg := h.lt g h.fg
  have lp := h.lt gp h.fp
  refine ⟨by rw [List.length_set]; exact h.len, h.lim, h.e6, h.cts, h.ne, (hs g lg h.ne).trans h.hg, hp, .inl h.fg, .inl h.fp, fun b hb => ?_, fun j x o hj hjo => ?_⟩
  · rcases hb with hb | ⟨q, hb⟩
    · have := h.lt b hb; omega
    · exact hal b q hb
  · by_cases e1 : k = j
    · subst e1
      have hk := (List.getElem?_eq_some_iff.1 ho).1
      rw [List.getElem?_set_self hk] at hjo
      cases hjo
      obtain ⟨r0, r1, a0, m0, d0, r2, _⟩ := h.row k x none hj ho
      have s1 : k * 3 + 1 < ps.size := (Array.getElem?_eq_some_iff.1 r1).1
      have s2 : k * 3 + 2 < ps.size := (Array.getElem?_eq_some_iff.1 r2).1
      refine ⟨?_, ?_, a, m, c, ?_, hn, hm, fun b q hb => ⟨.inr ⟨q, hb⟩, ?_, ?_⟩⟩
      · rw [Array.getElem?_setIfInBounds_ne (by omega), Array.getElem?_setIfInBounds_ne (by omega)]; exact r0
      · rw [Array.getElem?_setIfInBounds_ne (by omega), Array.getElem?_setIfInBounds_self_of_lt s1]; rfl
      · rw [Array.getElem?_setIfInBounds_self_of_lt (by simpa using s2)]
      · have := ha b q hb; omega
      · have := ha b q hb; omega
    · rw [List.getElem?_set_ne e1] at hjo
      obtain ⟨r0, r1, a0, m0, d0, r2, n0, m1, ap⟩ := h.row j x o hj hjo
      refine ⟨?_, ?_, a0, m0, d0, ?_, n0.same fun b q hb => hs b (h.lt b (ap b q hb).1) (ap b q hb).2.2, m1, fun b q hb => ⟨.inl (ap b q hb).1, (ap b q hb).2⟩⟩
      · rw [Array.getElem?_setIfInBounds_ne (by omega), Array.getElem?_setIfInBounds_ne (by omega)]; exact r0
      · rw [Array.getElem?_setIfInBounds_ne (by omega), Array.getElem?_setIfInBounds_ne (by omega)]; exact r1
      · rw [Array.getElem?_setIfInBounds_ne (by omega), Array.getElem?_setIfInBounds_ne (by omega)]; exact r2

/- what Add leaves -/
def APost (w : World) (g : Nat) (F : Nat → Prop) (l : List Chk) (e : Nat) (st : Sts) (r : Ending) (w' : World) : Prop :=
  ∃ (F' : Nat → Prop) (gp : Nat) (ps : Array Value), r = .returned (.int .i64 0) ∧ Jm w' g gp ps F' l e st ∧ Kp F w w' ∧ ∀ b, F' b → F b ∨ w.heap.size ≤ b

set_option maxHeartbeats 8000000 in
theorem add_good (w : World) (g gp : Nat) (ps : Array Value) (F : Nat → Prop) (l : List Chk) (e : Nat) (st : Sts) (k m c : Nat) (a : Option Addr) (xs : List Nat) (h : Jm w g gp ps F l e st) (hx : Nl w m a xs) (hq : addC l e st (k : Int) m = 0) :
    Calls Try.prog 17 #[.pointer (some ⟨g, 0, none⟩), .int .i64 (k : Int), .slice a m c] w (APost w g F l e (st.set k (some xs))) := by
  have hkl : k < l.length := by
    by_cases h1 : k < l.length
    · exact h1
    · rw [addC_range (.inr (by omega))] at hq; cases hq
  rw [addC_nat hkl] at hq
  obtain ⟨o, ho⟩ : ∃ o, st[k]? = some o := ⟨_, List.getElem?_eq_getElem (by rw [h.len]; exact hkl)⟩
  obtain ⟨x, hlx⟩ : ∃ x, l[k]? = some x := ⟨_, List.getElem?_eq_getElem hkl⟩
  rw [List.getD_eq_getElem?_getD, ho, List.getD_eq_getElem?_getD, hlx] at hq
  have hq : (if o.isSome = true then (7 : Int) else if (m : Int) ≠ (e : Int) * x.ct then 11 else 0) = 0 := hq
  cases o with
  | some ys => simp at hq
  | none =>
  rw [if_neg (by simp)] at hq
  have hme : (m : Int) = (e : Int) * x.ct := by
    by_cases h1 : (m : Int) = (e : Int) * x.ct
    · exact h1
    · rw [if_pos h1] at hq; cases hq
  have hm3 : m ≤ 3072 := by
    have hc2 := h.cts x (List.mem_of_getElem? hlx)
    have h6 := h.e6
    have h1 : (e : Int) * x.ct ≤ 6 * 512 := Int.mul_le_mul (by omega) hc2.2 (by omega) (by omega)
    omega
  obtain ⟨r0, r1, a0, m0, d0, r2, _⟩ := h.row k x none hlx ho
  rw [← hme] at r0
  have kN := hide1 (none_made w g _ h.hg)
  obtain ⟨n, hn⟩ : ∃ n, n = l.length := ⟨_, rfl⟩
  have hg := h.hg
  have hlim := h.lim
  rw [← hn] at hg hkl hlim
  have bk : (k : Int) < (n : Int) := by omega
  have bk2 : (k : Int) < 20 := by omega
  have nk : ¬ (n : Int) ≤ (k : Int) := by omega
  have n0 : ¬ (k : Int) < 0 := by omega
  have g1 : w.cell? ⟨g, 1, none⟩ = some (.slice (some ⟨gp, 0, none⟩) n n) := by rw [cell_of_row w g 1 _ _ _ hg]; rfl
  have c0 : w.cell? ⟨gp, k * 3, none⟩ = some (.int .i64 (m : Int)) := by rw [cell_of_row w gp _ _ _ _ h.hp]; exact r0
  have c1 : w.cell? ⟨gp, k * 3 + 1, none⟩ = some (.bool false) := by rw [cell_of_row w gp _ _ _ _ h.hp]; exact r1
  have c2 : w.cell? ⟨gp, k * 3 + 2, none⟩ = some (.slice a0 m0 d0) := by rw [cell_of_row w gp _ _ _ _ h.hp]; exact r2
  have f1 : w.frozen? ⟨gp, k * 3 + 1, none⟩ = false := frozen_of_row w gp _ _ _ h.hp
  have q0 : ((m : Int) != (m : Int)) = false := by simp
  have H := hide1 h
  have HX := hide1 hx
  have HO := hide1 ho
  clear h hx ho hlx hq hme r0 r1 r2 hn hg
  go_enter Try.func17, Try.ntmps17
  go_wp2_with fail
  go_at_call 24
  refine kN.out.mono ?_
  rintro r w1 ⟨rfl, he⟩
  obtain rfl := he.symm
  clear kN he
  go_upto_region 10 with (fail)
  generalize hV : World.setCell w _ _ = V
  have vp : V.heap[gp]? = some (.cells (ps.setIfInBounds (k * 3 + 1) (.bool true)) 72 (0, 0)) := by rw [← hV]; exact heap_setCell_same _ _ _ _ _ _ H.out.hp
  have vo : ∀ b, b ≠ gp → V.heap[b]? = w.heap[b]? := fun b hb => by rw [← hV]; exact heap_setCell_other _ _ _ _ hb
  have vs : V.heap.size = w.heap.size := by rw [← hV]; simp [World.setCell]
  have vk : Kp F w V := by rw [← hV]; exact Kp.setCell _ _ _ _ H.out.fp
  have v1 : V.cell? ⟨g, 1, none⟩ = some (.slice (some ⟨gp, 0, none⟩) n n) := by
    have : V.heap[g]? = _ := vo g H.out.ne
    unfold World.cell? at g1 ⊢
    rw [this]
    exact g1
  have vx : Nl V m a xs := by rw [← hV]; exact HX.out.setBool H.out.hp (by rw [← cell_of_row w gp _ _ _ _ H.out.hp]; exact c1)
  have KC : Hid (∀ W, Below V.heap.size V W → Calls Try.prog 25 #[.slice a m c] W fun e w' => ∃ a' c', e = .returned (.slice a' m c') ∧ Nl w' m a' xs ∧ (∀ b q, a' = some ⟨b, q, none⟩ → W.heap.size ≤ b ∧ b < w'.heap.size) ∧ Below W.heap.size W w') := fun W hb => clone_any W m c a xs (vx.below hb (Nat.le_refl _)) (by omega)
  have V2 : Hid ((ps.setIfInBounds (k * 3 + 1) (.bool true))[k * 3 + 2]? = some (.slice a0 m0 d0)) := by
    show _ = _
    rw [Array.getElem?_setIfInBounds_ne (by omega), ← cell_of_row w gp _ _ _ _ H.out.hp]
    exact c2
  have VP := hide1 vp
  have VO := hide1 vo
  have VS := hide1 vs
  have VK := hide1 vk
  clear hV vp vo vs vk vx g1 c0 c1 c2 f1 HX
  refine region_f (F := [9]) (S := fun W => Below V.heap.size V W) (by kernel_rfl) (Below.refl _ _).drew (fun hS => ?_)
  refine take_p 0 50 (.pointer (some ⟨g, 0, none⟩)) rfl rfl (by kernel_rfl) (by kernel_rfl) (by kernel_rfl) (fun _ _ _ h => h) rfl (fun w => by go_simp) ?_
  try simp only [List.setIfInBounds_toArray, List.set_cons_zero, List.set_cons_succ]
  refine take_p 1 51 (.pointer (some ⟨g, 0, none⟩)) rfl rfl (by kernel_rfl) (by kernel_rfl) (by kernel_rfl) (fun _ _ _ h => h) rfl (fun w => by go_simp) ?_
  try simp only [List.setIfInBounds_toArray, List.set_cons_zero, List.set_cons_succ]
  refine take_p 2 52 (.pointer (some ⟨g, 1, none⟩)) rfl rfl (by kernel_rfl) (by kernel_rfl) (by kernel_rfl) (fun _ _ _ h => h) rfl (fun w => by go_simp) ?_
  try simp only [List.setIfInBounds_toArray, List.set_cons_zero, List.set_cons_succ]
  refine take_f 3 53 (.slice (some ⟨gp, 0, none⟩) n n) [7, 8, 9] rfl rfl (by kernel_rfl) (by kernel_rfl) (by kernel_rfl) (by kernel_rfl) (by kernel_rfl) (by kernel_rfl) (fun _ _ _ h => h) rfl (fun w hSw => by have h1 := (hSw.cell (p := ⟨g, _, none⟩) (lt_cell v1)).trans v1; go_simp) hS ?_
  try simp only [List.setIfInBounds_toArray, List.set_cons_zero, List.set_cons_succ]
  refine take_p 4 54 (.int .i64 (k : Int)) rfl rfl (by kernel_rfl) (by kernel_rfl) (by kernel_rfl) (fun _ _ _ h => h) rfl (fun w => by go_simp) ?_
  try simp only [List.setIfInBounds_toArray, List.set_cons_zero, List.set_cons_succ]
  refine take_p 5 55 (.slice a m c) rfl rfl (by kernel_rfl) (by kernel_rfl) (by kernel_rfl) (fun _ _ _ h => h) rfl (fun w => by go_simp) ?_
  try simp only [List.setIfInBounds_toArray, List.set_cons_zero, List.set_cons_succ]
  refine ready_f 6 (o := { dst := some 56, op := Op.call { callee := Callee.value (Operand.func 25), args := #[Operand.tmp 55], argTypes := #[51] }, type := 51, pos := "joiner.go:65", after := #[{ on := 5, ground := Ground.data }], guard := none }) (by kernel_rfl) rfl (fun K hK => ?_)
  go_simp
  refine (KC.out _ hS).mono ?_
  rintro r w6 ⟨a', c', rfl, hn6, na6, hb6⟩
  have HB6 : Below V.heap.size V w6 := hS.trans hb6
  have R6 : Hid ((∀ b q, a' = some ⟨b, q, none⟩ → V.heap.size ≤ b) ∧ Nl w6 m a' xs ∧ (∀ b q, a' = some ⟨b, q, none⟩ → b < w6.heap.size) ∧ Below V.heap.size V w6) := ⟨fun b q hq => (na6 b q hq).1, hn6, fun b q hq => (na6 b q hq).2, HB6⟩
  have p6 : w6.heap[gp]? = some (.cells (ps.setIfInBounds (k * 3 + 1) (.bool true)) 72 (0, 0)) := (HB6.block gp (lt_heap VP.out)).trans VP.out
  have p2 : w6.cell? ⟨gp, k * 3 + 2, none⟩ = some (.slice a0 m0 d0) := by rw [cell_of_row w6 gp _ _ _ _ p6]; exact V2.out
  have f2 : w6.frozen? ⟨gp, k * 3 + 2, none⟩ = false := frozen_of_row w6 gp _ _ _ p6
  clear hn6 na6 hb6 p6
  refine hK.out _ _ (fun _ _ => HB6) ?_
  clear hK K
  try simp only [Act.put, List.setIfInBounds_toArray, List.set_cons_zero, List.set_cons_succ]
  refine take_p 7 57 (.pointer (some ⟨gp, k * 3, none⟩)) rfl rfl (by kernel_rfl) (by kernel_rfl) (by kernel_rfl) (fun _ _ _ h => h) rfl (fun w => by go_simp) ?_
  try simp only [List.setIfInBounds_toArray, List.set_cons_zero, List.set_cons_succ]
  refine take_p 8 58 (.pointer (some ⟨gp, k * 3 + 2, none⟩)) rfl rfl (by kernel_rfl) (by kernel_rfl) (by kernel_rfl) (fun _ _ _ h => h) rfl (fun w => by go_simp) ?_
  try simp only [List.setIfInBounds_toArray, List.set_cons_zero, List.set_cons_succ]
  refine ready_f 9 (o := { dst := none, op := Op.store 51 (Operand.tmp 58) (Operand.tmp 56), type := 0, pos := "joiner.go:65", after := #[{ on := 8, ground := Ground.data }, { on := 6, ground := Ground.data }, { on := 6, ground := Ground.chain }, { on := 0, ground := Ground.phase }, { on := 1, ground := Ground.phase }, { on := 2, ground := Ground.phase }, { on := 3, ground := Ground.phase }, { on := 4, ground := Ground.phase }, { on := 5, ground := Ground.phase }, { on := 6, ground := Ground.phase }], guard := none }) (by kernel_rfl) rfl (fun K hK => ?_)
  go_simp
  refine hK.out _ _ (fun h => absurd (by decide) h) ?_
  clear hK K
  refine done_f (by kernel_rfl) ?_ _
  go_wp2
  go_ret
  have hgp := H.out.lt gp H.out.fp
  have hgV : gp < V.heap.size := by rw [VS.out]; exact hgp
  obtain ⟨na, hn6, hlt6, hb6⟩ := R6.out
  have w6p : w6.heap[gp]? = some (.cells (ps.setIfInBounds (k * 3 + 1) (.bool true)) 72 (0, 0)) := (hb6.block gp hgV).trans VP.out
  have hsz : (w6.setCell ⟨gp, k * 3 + 2, none⟩ (.slice a' m c')).heap.size = w6.heap.size := by simp [World.setCell]
  have hs6 := hb6.size
  rw [VS.out] at hs6 na
  refine ⟨newF F a', gp, _, rfl, H.out.added HO.out hm3 (fun b hb hne => (heap_setCell_other _ _ _ _ hne).trans ((hb6.block b (by rw [VS.out]; exact hb)).trans (VO.out b hne))) (heap_setCell_same _ _ _ _ _ _ w6p) (hn6.same fun b q hq => heap_setCell_other _ _ _ _ (show b ≠ gp by have := na b q hq; omega)) na (fun b q hq => by rw [hsz]; exact hlt6 b q hq) (by rw [hsz]; exact hs6), (VK.out.trans (Kp.ofBelow hb6)).trans (Kp.setCell _ _ _ _ H.out.fp), fun b hb => ?_⟩
  rcases hb with hb | ⟨q, hb⟩
  · exact .inl hb
  · exact .inr (na b q hb)
end Go.Proofs.Ytceemkjmmfkmdaa.St
