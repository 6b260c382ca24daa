/- The iterator slices.Backward over a list of errors. -/
import Derived.RangeFuncNested
import Derived.RangeFuncCalls
import Derived.RangeFuncLeaves
import Derived.RangeFuncBox
import Derived.Shelf.Abstract
import Derived.WalkKit
import Derived.OwnWalkIn
import Derived.TacticsInMore
import Derived.LoopNIn
import Derived.LoopIn
import Derived.Deep.LoopGhost
import Derived.Test.YtcgpokbijaioiaaDoorFd
import Derived.Test.YtcgpokbijaioiaaDoorFk
namespace Go.Proofs.YtcgpokbijaioiaaDoor.F
open Go.RowKit Go.Shelf
set_option maxRecDepth 100000
attribute [local go_sem] not_any mf_any

attribute [local go_sem] ta74_74 ta77_74 ta100_74 ta103_74 method_unwrap

set_option maxHeartbeats 400000 in
theorem isHollow_wrap (b : Nat) (t : TypeId) (v : Value) (w : World) (h2 : w.cell? ⟨b, 2, none⟩ = some (.iface t v)) :
    Calls Tryd.prog 26 #[.iface 74 (.pointer (some ⟨b, 0, none⟩))] w fun e w' => e = .returned (.bool false) ∧ w' = w := by
  go_enter Tryd.func26, Tryd.ntmps26
  go_wp2
  go_ret
  exact ⟨rfl, rfl⟩

set_option maxHeartbeats 400000 in
theorem isOwn_74 (v : Value) (w : World) :
    Calls Tryd.prog 37 #[.iface 74 v] w fun e w' => e = .returned (.bool true) ∧ w' = w := by
  go_enter Tryd.func37, Tryd.ntmps37
  go_wp2
  go_ret
  exact ⟨rfl, rfl⟩

set_option maxHeartbeats 400000 in
theorem causes1_wrap (p b : Nat) (t : TypeId) (v : Value) (w : World) (hp : w.cell? ⟨p, 0, none⟩ = some (.iface 74 (.pointer (some ⟨b, 0, none⟩)))) (h2 : w.cell? ⟨b, 2, none⟩ = some (.iface t v)) :
    Calls Tryd.prog 52 #[.pointer (some ⟨p, 0, none⟩)] w fun e w' => e = .returned (.slice (some ⟨w.heap.size, 0, none⟩) 1 1) ∧ w' = w.alloc (.cells #[.iface t v] 27) := by
  go_enter Tryd.func52, Tryd.ntmps52
  go_wp2
  go_ret
  exact ⟨rfl, rfl⟩

set_option maxHeartbeats 400000 in
theorem causes_wrap (b : Nat) (t : TypeId) (v : Value) (w : World) (h2 : w.cell? ⟨b, 2, none⟩ = some (.iface t v)) :
    Calls Tryd.prog 38 #[.iface 74 (.pointer (some ⟨b, 0, none⟩))] w fun e w' => e = .returned (.slice (some ⟨w.heap.size + 1, 0, none⟩) 1 1) ∧
      w' = (w.alloc (.cells #[.iface 74 (.pointer (some ⟨b, 0, none⟩))] 27)).alloc (.cells #[.iface t v] 27) := by
  have hlt := lt_cell h2
  go_enter Tryd.func38, Tryd.ntmps38
  go_wp2_with fail
  refine (guarded58 _ _ (fun x w' => x = .slice (some ⟨w.heap.size + 1, 0, none⟩) 1 1 ∧ w' = (w.alloc (.cells #[.iface 74 (.pointer (some ⟨b, 0, none⟩))] 27)).alloc (.cells #[.iface t v] 27)) ?_).mono ?_
  · refine (causes1_wrap w.heap.size b t v _ (by simp) ((World.cell?_alloc_past _ _ _ hlt).trans h2)).mono ?_
    rintro e w' ⟨rfl, rfl⟩
    exact ⟨_, rfl, by simp, rfl⟩
  rintro e w' ⟨x, rfl, rfl, rfl⟩
  go_wp2
  go_ret
  exact ⟨rfl, rfl⟩

attribute [local go_sem] Oper.semAt_some
attribute [-go_sem] ta74_74 ta77_74 ta100_74 ta103_74 method_unwrap

abbrev E : Type := TypeId × Value

def ev (e : E) : Value := .iface e.1 e.2

def Sw : Nat → Obj → Prop := fun _ o => isRow 85 o ∨ isRow 86 o ∨ o.isCells = false

theorem Kp.cellSw {w w' : World} (h : Kp Sw w w') {b j : Nat} {v : Value} {t : TypeId} {c : Array Value} {fr : Nat × Nat} (hb : w.heap[b]? = some (.cells c t fr)) (h1 : t ≠ 85) (h2 : t ≠ 86) (hc : w.cell? ⟨b, j, none⟩ = some v) : w'.cell? ⟨b, j, none⟩ = some v :=
  h.cell hc (fun o ho hS => by
    rw [hb] at ho
    cases ho
    rcases hS with ⟨_, _, e⟩ | ⟨_, _, e⟩ | e
    · cases e; exact h1 rfl
    · cases e; exact h2 rfl
    · simp [Obj.isCells] at e)

theorem drop_rev {ks : List E} {k : Nat} {e : E} (h : ks[k]? = some e) : (ks.drop k).reverse = (ks.drop (k + 1)).reverse ++ [e] := by
  have hk : k < ks.length := (List.getElem?_eq_some_iff.1 h).1
  rw [List.drop_eq_getElem_cons hk]
  have : ks[k] = e := (List.getElem?_eq_some_iff.1 h).2
  simp [this]

set_option maxHeartbeats 2000000 in
theorem back1_in (F : Fence) (n : Nat) (h60 : F.fn 53) (hro : F.round = none) (hn : 1 ≤ n) (l Bs q cap : Nat) (ks : List E) (hlen : ks.length ≤ 1000000)
    (J Jx : List (Int × E) → World → Prop)
    (hY : ∀ pre x W, J pre W → pre.length < ks.length → YieldAt F (n - 1) Tryd.prog l #[.int .i64 x.1, ev x.2] W fun e W' =>
      (e = .returned (.bool true) ∧ J (pre ++ [x]) W' ∧ Kp Sw W W') ∨ (e = .returned (.bool false) ∧ Jx (pre ++ [x]) W'))
    (W : World) (hBs : W.heap[Bs]? = some (.cells #[.slice (some ⟨q, 0, none⟩) ks.length cap] 87 (0, 0)))
    (cs : Array Value) (hq : W.heap[q]? = some (.cells cs 27 (0, 0))) (hc : ∀ (j : Nat) (e : E), ks[j]? = some e → cs[j]? = some (ev e)) (h0 : J [] W) :
    CallsIn F n Tryd.prog 53 #[.func (.yield l) #[] #[], .pointer (some ⟨Bs, 0, none⟩)] W fun e W' => (∃ v, e = .returned v) ∧
      ((∃ ys : List (Int × E), ys.map (·.2) = ks.reverse ∧ J ys W') ∨ (∃ pre, True ∧ Jx pre W')) := by
  refine callsIn_of_wp Tryd.func53 rfl h60 ?_ hro
  simp only [Tryd.ntmps53, List.size_toArray, List.length_cons, List.length_nil, Nat.reduceAdd, Nat.reduceSub, Array.replicate_succ, Array.replicate_zero, List.push_toArray, List.append_toArray, List.nil_append, List.cons_append]
  have hcb : W.cell? ⟨Bs, 0, none⟩ = some (.slice (some ⟨q, 0, none⟩) ks.length cap) := by rw [Lib.cell_of_heap hBs]; rfl
  gi_wp2
  gi_loopw [3] (fun i wr => ∃ k : Nat, k ≤ ks.length ∧ i = .int .i64 ((k : Int) - 1) ∧ (∃ pre : List (Int × E), pre.map (·.2) = (ks.drop k).reverse ∧ J pre wr) ∧ Kp Sw W wr)
    (fun i _ => (intOf i + 1).toNat)
  case atStart => exact ⟨ks.length, Nat.le_refl _, by go_num, ⟨[], by simp, h0⟩, Kp.refl _ _⟩
  case round =>
    obtain ⟨k, hk, rfl, ⟨pre, hpre, hJs⟩, hnx⟩ := hrel
    have hcb' := hnx.cellSw hBs (by decide) (by decide) hcb
    cases k with
    | zero =>
      gi_wp2
      go_end0
      exact ⟨⟨_, rfl⟩, .inl ⟨pre, by simpa using hpre, hJs⟩⟩
    | succ k =>
      have hk' : k < ks.length := by omega
      obtain ⟨e, he⟩ : ∃ e, ks[k]? = some e := ⟨_, List.getElem?_eq_getElem hk'⟩
      have hce : W.cell? ⟨q, k, none⟩ = some (ev e) := by rw [Lib.cell_of_heap hq]; exact hc k e he
      have hce' := hnx.cellSw hq (by decide) (by decide) hce
      have hpl : pre.length < ks.length := by
        have := congrArg List.length hpre
        simp at this
        omega
      obtain ⟨fn, tmps, assign, body, hy, hR⟩ := hY pre ((k : Int), e) wr hJs hpl
      dsimp only at hy
      have hi : ((k + 1 : Nat) : Int) - 1 = (k : Int) := by omega
      rw [hi]
      gi_wp2
      refine hR.mono ?_
      rintro e' W3 (⟨rfl, hJ3, hk3⟩ | ⟨rfl, hJx3⟩)
      · gi_wp2
        go_roundw
        case rel => exact ⟨k, by omega, by go_num, ⟨pre ++ [((k : Int), e)], by rw [List.map_append, hpre, drop_rev he]; rfl, hJ3⟩, hnx.trans hk3⟩
        case measure => simp [intOf]
      · gi_wp2
        refine bodyPost_ret (results_none rfl _ _ _) rfl ?_
        exact ⟨⟨_, rfl⟩, .inr ⟨_, trivial, hJx3⟩⟩

set_option maxHeartbeats 2000000 in
theorem back1_nil_in (F : Fence) (n : Nat) (h60 : F.fn 53) (hro : F.round = none) (l Bs : Nat)
    (J : List (Int × E) → World → Prop) (W : World) (hcb : W.cell? ⟨Bs, 0, none⟩ = some (.slice none 0 0)) (h0 : J [] W) :
    CallsIn F n Tryd.prog 53 #[.func (.yield l) #[] #[], .pointer (some ⟨Bs, 0, none⟩)] W fun e W' => (∃ v, e = .returned v) ∧ J [] W' := by
  refine callsIn_of_wp Tryd.func53 rfl h60 ?_ hro
  simp only [Tryd.ntmps53, List.size_toArray, List.length_cons, List.length_nil, Nat.reduceAdd, Nat.reduceSub, Array.replicate_succ, Array.replicate_zero, List.push_toArray, List.append_toArray, List.nil_append, List.cons_append]
  gi_wp2
  gi_loopw [3] (fun i wr => i = .int .i64 (-1) ∧ J [] wr) (fun _ _ => 0)
  case atStart => exact ⟨by go_num, h0⟩
  case round =>
    obtain ⟨rfl, hJs⟩ := hrel
    gi_wp2
    go_end0
    exact ⟨⟨_, rfl⟩, hJs⟩

set_option maxHeartbeats 1000000 in
theorem back_in (F : Fence) (n : Nat) (h47 : F.fn 39) (hro : F.round = none) (a : Option Addr) (len cap : Nat) (w : World) :
    CallsIn F n Tryd.prog 39 #[.slice a len cap] w fun e w' => e = .returned (.func (.func 53) #[] #[.pointer (some ⟨w.heap.size, 0, none⟩)]) ∧ w' = w.alloc (.cells #[.slice a len cap] 87) := by
  refine callsIn_of_wp Tryd.func39 rfl h47 ?_ hro
  simp only [Tryd.ntmps39, List.size_toArray, List.length_cons, List.length_nil, Nat.reduceAdd, Nat.reduceSub, Array.replicate_succ, Array.replicate_zero, List.push_toArray, List.append_toArray, List.nil_append, List.cons_append]
  gi_wp2
  go_ret
  exact ⟨rfl, rfl⟩

def IsKids (W : World) (sv : Value) (ks : List E) : Prop :=
  (sv = .slice none 0 0 ∧ ks = []) ∨ ∃ q cap cs, sv = .slice (some ⟨q, 0, none⟩) ks.length cap ∧ W.heap[q]? = some (.cells cs 27 (0, 0)) ∧ ∀ (j : Nat) (e : E), ks[j]? = some e → cs[j]? = some (ev e)

theorem back_stops (F : Fence) (n : Nat) (h60 : F.fn 53) (hro : F.round = none) (hn : 1 ≤ n) (Bs : Nat) (sv : Value) (ks : List E) (hlen : ks.length ≤ 1000000) (w : World)
    (hBs : w.heap[Bs]? = some (.cells #[sv] 87 (0, 0))) (hI : IsKids w sv ks) :
    SeqStopsK F n Tryd.prog 53 #[.pointer (some ⟨Bs, 0, none⟩)] (fun x : Int × E => #[.int .i64 x.1, ev x.2]) (Kp Sw) (fun ys => ys.map (·.2) = ks.reverse) (fun _ => True) ks.length w := fun l J Jx W hW _ _ hY h0 => by
  have hBs' : W.heap[Bs]? = some (.cells #[sv] 87 (0, 0)) := (hW.block Bs (lt_of_heap hBs)).trans hBs
  rcases hI with ⟨rfl, rfl⟩ | ⟨q, cap, cs, rfl, hq, hc⟩
  · have hc' : W.cell? ⟨Bs, 0, none⟩ = some (.slice none 0 0) := by rw [Lib.cell_of_heap hBs']; rfl
    exact (back1_nil_in F n h60 hro l Bs J W hc' h0).mono fun e W' ⟨he, hj⟩ => ⟨he, .inl ⟨_, rfl, hj⟩⟩
  · exact back1_in F n h60 hro hn l Bs q cap ks hlen J Jx hY W hBs' cs ((hW.block q (lt_of_heap hq)).trans hq) hc h0

end Go.Proofs.YtcgpokbijaioiaaDoor.F
