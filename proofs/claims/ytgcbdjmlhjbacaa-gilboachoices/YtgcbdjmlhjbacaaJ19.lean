/- A region that draws, within a round of a range over a function; slices.Chunk of words: its parts, one behind the other. -/
import Derived.RangeFuncNested
import Derived.RangeFuncBound
import Derived.RangeFuncCalls
import Derived.RangeFuncLeaves
import Derived.RangeFuncBox
import Derived.Shelf.Abstract
import Derived.WalkKit
import Derived.OwnWalkIn
import Derived.TacticsInMore
import Derived.LoopNIn
import Derived.LoopIn
import Derived.Sort.CutIn
import Derived.Test.YtgcbdjmlhjbacaaJ18
namespace Go.Proofs.Ytgcbdjmlhjbacaa.Gi
open Go.RowKit Go.Shelf Ri
set_option maxRecDepth 100000
attribute [local go_sem] Oper.semAt_some Ri.not_any Ri.mf_any

theorem rowsIn_wide {n : Nat} {P : Program} {row : String} {args : Array Value} {w : World} {R : Value → World → Prop} (h : Rows P row args w R) : RowsIn Fence.wide n P row args w R :=
  fun c cs _ => let ⟨v, w', r, s⟩ := h c cs; ⟨v, w', r, stepsIn_wide.2 s⟩
theorem room_all {n : Nat} : Fence.wide.depth.isSome = true → 1 ≤ n := fun h => by simp [Fence.wide] at h

theorem op_round (l n : Nat) {P : Program} {o : Oper} {a : Act} {w : World} {K : Act → World → Prop} {Q : Exit → Act → World → Prop} (hd : ∀ c, o.op ≠ .defer c) (h : o.wp P a w K Q) : o.wpIn (Fence.wide.inRound l) n P a w K Q := by
  refine ⟨fun _ _ => trivial, ?_⟩
  unfold Oper.wp at h
  rw [Oper.semAt_eq _ _ _ hd]
  generalize (execOp a.eval o).run P w = r at h ⊢
  cases r with
  | ok x w' =>
    cases x <;> simp only [Oper.upon] at h <;> simp only [Oper.uponIn] <;>
      first
        | exact h
        | exact ⟨room_all, CallsIn.inRound l ((callsIn_wide.2 h).mono fun e w'' he => by cases e <;> exact he)⟩
        | exact ⟨room_all, rowsIn_wide h⟩
  | halt x w' =>
    cases x <;> simp only [Oper.upon] at h <;> simp only [Oper.uponIn] <;> exact h

def noDefer (ops : Array Oper) : Bool := ops.all fun o => match o.op with
  | .defer _ => false
  | _ => true
theorem noDefer_spec {ops : Array Oper} (h : noDefer ops = true) {i : Nat} {o : Oper} (hi : ops[i]? = some o) (c : Call) : o.op ≠ .defer c := by
  intro e
  obtain ⟨hlt, rfl⟩ := Array.getElem?_eq_some_iff.1 hi
  have := Array.all_eq_true.1 h i hlt
  rw [e] at this
  cases this
theorem any_round (l n : Nat) {P : Program} {md : Region.Mode} {ops : Array Oper} {Q : Exit → Act → World → Prop} (hd : noDefer ops = true) (hq : ¬ LetsOut Q) : ∀ (fuel : Nat) (listed : Array Bool) (a : Act) (w : World), wpAny P md ops Q fuel listed a w → wpAnyIn (Fence.wide.inRound l) n P md ops Q fuel listed a w
  | 0, _, _, _, h => h
  | fuel + 1, listed, a, w, h => ⟨h.1, fun i hi => by
    have h2 := h.2 i hi
    unfold wpOp at h2
    unfold wpOpIn
    cases ho : ops[i]? with
    | none =>
      rw [ho] at h2
      exact any_round l n hd hq fuel _ a w h2
    | some o =>
      rw [ho] at h2
      simp only at h2 ⊢
      by_cases hw : Region.wanted o (yielded ops a.tmps) = true
      · rw [if_pos hw] at h2 ⊢
        rcases h2 with h2 | h2
        · exact Oper.wpIn_mono (fun a w h3 => any_round l n hd hq fuel _ a w h3) (op_round l n (noDefer_spec hd ho) h2)
        · exact absurd h2.2 hq
      · rw [if_neg hw] at h2 ⊢
        exact ⟨fun _ _ => trivial, any_round l n hd hq fuel _ _ w h2⟩⟩
theorem region_round {l n : Nat} {P : Program} {ops : Array Oper} {Q : Exit → Act → World → Prop} {S : World → Prop} {F : List Nat} {id : Nat} {a : Act} {w : World} (hm : P.follows .mixedOrders = true) (hd : noDefer ops = true) (hq : ¬ LetsOut Q) (hS : S w.drew)
    (h : S w.drew → St.wpAnyF P .any ops Q S F ops.size (Array.replicate ops.size false) a w.drew) : (Code.region id ops true).wpIn (Fence.wide.inRound l) n P Q a w :=
  wpIn_region_any hm (any_round l n hd hq _ _ _ _ (St.wpAny_of_f _ _ _ _ (h hS)))

/- slices of a list -/
theorem run_tail (g o N cx p : Nat) (hp : p < cx) (hN : p ≤ N) (_hc : N ≤ cx) (w : World) : (Instr.slice 22 (.slice (some ⟨g, o, none⟩) N cx) (some (.int .i64 (p : Int))) none none).run Try.prog w = .ok (.slice (some ⟨g, o + p, none⟩) (N - p) (cx - p)) w := by
  have a1 : (0 : Int) ≤ (p : Int) := by omega
  have a3 : ¬ cx = p := by omega
  simp [Instr.slice, run_underlying Try.underlying22, Instr.sliceBounds, run_sliceBound, a1, a3, hN, Addr.add]
theorem run_three (g o N cx p q : Nat) (hpq : p < q) (hq : q ≤ cx) (w : World) : (Instr.slice 22 (.slice (some ⟨g, o, none⟩) N cx) (some (.int .i64 (p : Int))) (some (.int .i64 (q : Int))) (some (.int .i64 (q : Int)))).run Try.prog w = .ok (.slice (some ⟨g, o + p, none⟩) (q - p) (q - p)) w := by
  have a1 : (0 : Int) ≤ (p : Int) := by omega
  have a2 : (0 : Int) ≤ (q : Int) := by omega
  have a3 : ¬ q = p := by omega
  have a4 : p ≤ q := by omega
  simp [Instr.slice, run_underlying Try.underlying22, Instr.sliceBounds, run_sliceBound, a1, a2, a3, a4, hq, Addr.add]

theorem chunk_any (a : Option Addr) (m c n : Nat) (hn : 1 ≤ n) (w : World) :
    Calls Try.prog 31 #[.slice a m c, .int .i64 (n : Int)] w fun e w' => e = .returned (.func (.func 42) #[] #[.pointer (some ⟨w.heap.size, 0, none⟩), .pointer (some ⟨w.heap.size + 1, 0, none⟩)]) ∧ w' = (w.alloc (.cells #[.slice a m c] 22)).alloc (.cells #[.int .i64 (n : Int)] 3) := by
  have hn' : ¬ (n : Int) < 1 := by omega
  go_enter Try.func31, Try.ntmps31
  go_wp2
  go_ret
  exact ⟨rfl, rfl⟩

/- what a round of a loop over the parts keeps -/
structure Kk (Bs Bn : Nat) (W W' : World) : Prop where
  size : W.heap.size ≤ W'.heap.size
  bs : W'.heap[Bs]? = W.heap[Bs]?
  bn : W'.heap[Bn]? = W.heap[Bn]?
theorem Kk.refl (Bs Bn : Nat) (W : World) : Kk Bs Bn W W := ⟨Nat.le_refl _, rfl, rfl⟩
theorem Kk.trans {Bs Bn : Nat} {A B C : World} (h : Kk Bs Bn A B) (k : Kk Bs Bn B C) : Kk Bs Bn A C := ⟨Nat.le_trans h.size k.size, k.bs.trans h.bs, k.bn.trans h.bn⟩

/- a part's number -/
abbrev Ix (q : Nat) : Type := { i : Nat // i < q }
def part (b off r : Nat) {q : Nat} (x : Ix q) : Array Value := #[.slice (some ⟨b, off + x.1 * r, none⟩) r r]

set_option maxHeartbeats 4000000 in
theorem chunk1_in (n : Nat) (hn : 1 ≤ n) (l Bs Bn b off q r m cap : Nat) (a : Option Addr) (hr : 1 ≤ r) (hm : m = q * r) (hmx : m ≤ 4194304) (hcap : m ≤ cap) (ha : 0 < q → a = some ⟨b, off, none⟩)
    (J Jx : List (Ix q) → World → Prop)
    (hY : ∀ pre (x : Ix q) W, J pre W → pre.length < q → YieldAt Fence.wide (n - 1) Try.prog l (part b off r x) W fun e W' =>
      (e = .returned (.bool true) ∧ J (pre ++ [x]) W' ∧ Kk Bs Bn W W') ∨ (e = .returned (.bool false) ∧ Jx (pre ++ [x]) W'))
    (hJ : ∀ s W q, J s W → J s (World.drewN W q))
    (W : World) (hBs : W.heap[Bs]? = some (.cells #[.slice a m cap] 22 (0, 0))) (hBn : W.heap[Bn]? = some (.cells #[.int .i64 (r : Int)] 3 (0, 0))) (h0 : J [] W) :
    CallsIn Fence.wide n Try.prog 42 #[.func (.yield l) #[] #[], .pointer (some ⟨Bs, 0, none⟩), .pointer (some ⟨Bn, 0, none⟩)] W fun e W' => (∃ v, e = .returned v) ∧
      ((∃ ys : List (Ix q), ys.map (·.1) = List.range q ∧ J ys W') ∨ (∃ pre, True ∧ Jx pre W')) := by
  have mixed := St.mixed
  have h1 : 1 ≤ n := hn
  refine callsIn_of_wp Try.func42 rfl trivial ?_ rfl
  simp only [Try.ntmps42, List.size_toArray, List.length_cons, List.length_nil, Nat.reduceAdd, Nat.reduceSub, Array.replicate_succ, Array.replicate_zero, List.push_toArray, List.append_toArray, List.nil_append, List.cons_append]
  have HY := hide1 hY
  have HJ := hide1 hJ
  have HM := hide1 hm
  have HA := hide1 ha
  clear hY hJ ha hm
  gi_wp2
  gi_loopw [4] (fun i wr => ∃ k p : Nat, k ≤ q ∧ p = k * r ∧ i = .int .i64 (p : Int) ∧ (∃ pre : List (Ix q), pre.map (·.1) = List.range k ∧ J pre wr) ∧ Kk Bs Bn W wr) (fun i _ => m - (intOf i).toNat)
  case atStart => exact ⟨0, 0, Nat.zero_le _, (Nat.zero_mul r).symm, rfl, ⟨[], rfl, h0⟩, Kk.refl _ _ _⟩
  case round =>
    obtain ⟨k, p, hk, hp, rfl, ⟨pre, hpre, hJs⟩, hkk⟩ := hrel
    have bs := hkk.bs.trans hBs
    have bn := hkk.bn.trans hBn
    have cs : ∀ q, (wr.drewN q).cell? ⟨Bs, 0, none⟩ = some (.slice a m cap) := fun q => by rw [Lib.cell_of_heap (show (wr.drewN q).heap[Bs]? = _ from bs)]; rfl
    have cn : ∀ q, (wr.drewN q).cell? ⟨Bn, 0, none⟩ = some (.int .i64 (r : Int)) := fun q => by rw [Lib.cell_of_heap (show (wr.drewN q).heap[Bn]? = _ from bn)]; rfl
    have cs0 := cs 0
    have cn0 := cn 0
    rw [World.drewN_zero] at cs0 cn0
    by_cases hlt : k < q
    · obtain rfl := HA.out (by omega)
      have hpr : p + r ≤ m := by
        rw [HM.out, hp, ← Nat.succ_mul]
        exact Nat.mul_le_mul_right r hlt
      have hpm : (p : Int) < (m : Int) := by omega
      have t1 := fun W => run_tail b off m cap p (by omega) (by omega) hcap W
      have mn : min (r : Int) ((m - p : Nat) : Int) = (r : Int) := by omega
      have e1 : IntKind.i64.wrap ((p : Int) + (r : Int)) = ((p + r : Nat) : Int) := by rw [← Int.natCast_add, wrap_i64_nat (by omega)]
      have t2 := fun W => run_three b off m cap p (p + r) (by omega) (by omega) W
      rw [Nat.add_sub_cancel_left] at t2
      gi_upto_region 3 with (fail)
      refine wpIn_wide.2 ?_
      have hpl : pre.length < q := by
        have := congrArg List.length hpre
        rw [List.length_map, List.length_range] at this
        omega
      have hpt : part b off r (⟨k, hlt⟩ : Ix q) = #[.slice (some ⟨b, off + p, none⟩) r r] := by unfold part; rw [hp]
      have HP := hide1 hp
      clear hp
      go_quiet (fail)
      obtain ⟨fn, tmps, assign, body, hy, hR⟩ := HY.out pre ⟨k, hlt⟩ _ (HJ.out _ _ nq hJs) hpl
      rw [hpt] at hy
      have cs1 := cs nq
      have cn1 := cn nq
      gi_wp2
      refine hR.mono ?_
      rintro e' W3 (⟨rfl, hJ3, hk3⟩ | ⟨rfl, hJx3⟩)
      · have bn3 : W3.cell? ⟨Bn, 0, none⟩ = some (.int .i64 (r : Int)) := by rw [Lib.cell_of_heap (hk3.bn.trans bn)]; rfl
        gi_wp2
        go_roundw
        case rel => exact ⟨k + 1, p + r, hlt, by rw [HP.out, Nat.succ_mul], by go_num, ⟨pre ++ [⟨k, hlt⟩], by rw [List.map_append, hpre, List.range_succ]; rfl, hJ3⟩, hkk.trans ⟨hk3.size, hk3.bs, hk3.bn⟩⟩
        case measure => simp [intOf]; omega
      · gi_wp2
        refine bodyPost_ret (results_none rfl _ _ _) rfl ?_
        exact ⟨⟨_, rfl⟩, .inr ⟨_, trivial, hJx3⟩⟩
    · obtain rfl : k = q := by omega
      obtain rfl : p = m := by rw [hp, HM.out]
      gi_wp2
      go_end0
      exact ⟨⟨_, rfl⟩, .inl ⟨pre, hpre, hJs⟩⟩

theorem chunk_stops (n : Nat) (hn : 1 ≤ n) (Bs Bn b off q r m cap : Nat) (a : Option Addr) (hr : 1 ≤ r) (hm : m = q * r) (hmx : m ≤ 4194304) (hcap : m ≤ cap) (ha : 0 < q → a = some ⟨b, off, none⟩)
    (w : World) (hBs : w.heap[Bs]? = some (.cells #[.slice a m cap] 22 (0, 0))) (hBn : w.heap[Bn]? = some (.cells #[.int .i64 (r : Int)] 3 (0, 0))) :
    SeqStopsK Fence.wide n Try.prog 42 #[.pointer (some ⟨Bs, 0, none⟩), .pointer (some ⟨Bn, 0, none⟩)] (part b off r (q := q)) (Kk Bs Bn) (fun ys => ys.map (·.1) = List.range q) (fun _ => True) q w := fun l J Jx W hW hJ _ hY h0 =>
  chunk1_in n hn l Bs Bn b off q r m cap a hr hm hmx hcap ha J Jx hY (fun s W q hs => hJ s W _ none hs ⟨rfl, rfl, rfl, Nat.le_refl _, fun _ _ _ => rfl⟩ (fun r e => by cases e)) W
    ((hW.block Bs (lt_heap hBs)).trans hBs) ((hW.block Bn (lt_heap hBn)).trans hBn) h0

/- what is kept where a list of the call's own grows in a box -/
structure Ke (b8 : Nat) (W W' : World) : Prop where
  size : W.heap.size ≤ W'.heap.size
  same : ∀ (k : Nat) (o : Obj), W.heap[k]? = some o → k ≠ b8 → (∀ c, o ≠ .cells c 44 (0, 0)) → W'.heap[k]? = some o
theorem Ke.refl (b8 : Nat) (W : World) : Ke b8 W W := ⟨Nat.le_refl _, fun _ _ h _ _ => h⟩
theorem Ke.trans {b8 : Nat} {A B C : World} (h : Ke b8 A B) (k : Ke b8 B C) : Ke b8 A C := ⟨Nat.le_trans h.size k.size, fun i o hi hn hc => k.same i o (h.same i o hi hn hc) hn hc⟩
theorem Ke.drew {b8 : Nat} {A B : World} (h : Ke b8 A B) : Ke b8 A B.drew := ⟨h.size, h.same⟩
theorem Ke.from {b8 B : Nat} {W W' : World} (h : Ke b8 W W') {c : Array Value} {t : TypeId} {fr : Nat × Nat} (hb : W.heap[b8]? = some (.cells c t fr)) : KeepsFrom B W W' :=
  ⟨h.size, fun k o _ hk ho => h.same k o hk (fun e => by
    subst e
    rw [hb] at hk
    cases hk
    cases ho) (fun c e => by subst e; cases ho)⟩
theorem Ke.kk {b8 Bs Bn : Nat} {W W' : World} (h : Ke b8 W W') {c d : Array Value} {t u : TypeId} (hs : W.heap[Bs]? = some (.cells c t (0, 0))) (hn : W.heap[Bn]? = some (.cells d u (0, 0))) (h1 : Bs ≠ b8) (h2 : Bn ≠ b8) (ht : t ≠ 44) (hu : u ≠ 44) : Kk Bs Bn W W' :=
  ⟨h.size, (h.same _ _ hs h1 (fun c e => by cases e; exact ht rfl)).trans hs.symm, (h.same _ _ hn h2 (fun c e => by cases e; exact hu rfl)).trans hn.symm⟩

/- a list that grows in a box, beside a width, another number and what a loop over parts reads -/
structure Pu (w : World) (b3 b8 Bs Bn : Nat) (x3 sv nv : Value) (out : List Nat) (W : World) : Prop where
  box : ∃ v, W.heap[b8]? = some (.cells #[v] 22 (0, 0)) ∧ Wo w.heap.size W v out
  wid : W.heap[b3]? = some (.cells #[x3] 3 (0, 0))
  bs : W.heap[Bs]? = some (.cells #[sv] 22 (0, 0))
  bn : W.heap[Bn]? = some (.cells #[nv] 3 (0, 0))
  bel : Below w.heap.size w W
  n3 : b3 ≠ b8
  ns : Bs ≠ b8
  nn : Bn ≠ b8
  b8s : w.heap.size ≤ b8
theorem Pu.kk {w W W' : World} {b3 b8 Bs Bn : Nat} {x3 sv nv : Value} {out : List Nat} (h : Pu w b3 b8 Bs Bn x3 sv nv out W) (hk : Ke b8 W W') : Kk Bs Bn W W' := hk.kk h.bs h.bn h.ns h.nn (by decide) (by decide)
theorem Pu.keep {w W W' : World} {b3 b8 Bs Bn : Nat} {x3 sv nv : Value} {out : List Nat} (h : Pu w b3 b8 Bs Bn x3 sv nv out W) {B : Nat} (hk : Ke b8 W W') : KeepsFrom B W W' := by
  obtain ⟨v, hv, _⟩ := h.box
  exact hk.from hv
/- what is no cells may turn, from a block on -/
theorem Pu.turn {w W W' : World} {b3 b8 Bs Bn : Nat} {x3 sv nv : Value} {out : List Nat} (h : Pu w b3 b8 Bs Bn x3 sv nv out W) {row : Option Nat} (hg : W.grownBy W' row) (hr : ∀ r, row = some r → w.heap.size ≤ r ∧ ∃ o : Obj, W.heap[r]? = some o ∧ o.isCells = false) : Pu w b3 b8 Bs Bn x3 sv nv out W' := by
  have hkeep : ∀ (k : Nat) (c : Array Value) (t : TypeId) (fr : Nat × Nat), W.heap[k]? = some (.cells c t fr) → W'.heap[k]? = some (.cells c t fr) := fun k c t fr hk => (hg.block k (lt_heap hk) (fun e => by
    obtain ⟨_, o, ho, hc⟩ := hr k e.symm
    rw [hk] at ho
    cases ho
    cases hc)).trans hk
  obtain ⟨v, hv, hw⟩ := h.box
  refine ⟨⟨v, hkeep _ _ _ _ hv, own_kept hw fun g c _ hh => hkeep _ _ _ _ hh⟩, hkeep _ _ _ _ h.wid, hkeep _ _ _ _ h.bs, hkeep _ _ _ _ h.bn, ?_, h.n3, h.ns, h.nn, h.b8s⟩
  exact h.bel.grown hg h.bel.size (fun k hk => (hr k hk).1)
/- a row is appended, and the list stored into its box -/
theorem Pu.step {w W W1 W2 : World} {b3 b8 Bs Bn : Nat} {x3 sv nv v v' : Value} {out C : List Nat} (h : Pu w b3 b8 Bs Bn x3 sv nv out W) (hv : W.heap[b8]? = some (.cells #[v] 22 (0, 0))) (hb : Below W.heap.size W W1)
    (h2 : Wo w.heap.size W2 v' (out ++ C)) (hg : W1.grownBy W2 v.ownBlock) : Pu w b3 b8 Bs Bn x3 sv nv (out ++ C) (W2.setCell ⟨b8, 0, none⟩ v') ∧ Ke b8 W (W2.setCell ⟨b8, 0, none⟩ v') := by
  obtain ⟨v0, hv0, hw⟩ := h.box
  obtain rfl : v0 = v := by
    rw [hv] at hv0
    cases hv0
    rfl
  have hrow : ∀ g, v0.ownBlock = some g → ∃ c, W.heap[g]? = some (.cells c 44 (0, 0)) := fun g e => by
    rcases hw.2 with ⟨h0, _⟩ | ⟨g', cap, cur, h0, _, hh, _⟩
    · rw [h0] at e
      cases e
    · rw [h0] at e
      cases e
      exact ⟨_, hh⟩
  have k1 : ∀ (k : Nat) (o : Obj), W.heap[k]? = some o → (∀ c, o ≠ .cells c 44 (0, 0)) → W2.heap[k]? = some o := fun k o hk hc => by
    have hk1 := (hb.block k (lt_heap hk)).trans hk
    refine (hg.block k (lt_heap hk1) (fun e => ?_)).trans hk1
    obtain ⟨c, hcc⟩ := hrow k e.symm
    rw [hk] at hcc
    cases hcc
    exact hc c rfl
  have hb2 := k1 b8 _ hv (fun c e => by cases e)
  have k2 : ∀ (k : Nat) (o : Obj), W.heap[k]? = some o → k ≠ b8 → (∀ c, o ≠ .cells c 44 (0, 0)) → (W2.setCell ⟨b8, 0, none⟩ v').heap[k]? = some o := fun k o hk hn hc => (heap_setCell_other _ _ _ _ hn).trans (k1 k o hk hc)
  have hsz : W.heap.size ≤ W2.heap.size := Nat.le_trans hb.size hg.size
  refine ⟨⟨⟨v', Boxed.set (v := v0) v' hb2, ?_⟩, k2 _ _ h.wid h.n3 (fun c e => by cases e), k2 _ _ h.bs h.ns (fun c e => by cases e), k2 _ _ h.bn h.nn (fun c e => by cases e), ?_, h.n3, h.ns, h.nn, h.b8s⟩, ⟨by simpa using hsz, k2⟩⟩
  · exact own_kept h2 fun g c _ hh => (heap_setCell_other _ _ _ _ (fun e => by
      subst e
      rw [hb2] at hh
      cases hh)).trans hh
  · have hB1 : Below w.heap.size w W1 := h.bel.trans (hb.mono h.bel.size)
    exact (hB1.grown hg hB1.size (fun k hk => (World.ownsRow.lt hw k hk).1)).setCell (p := ⟨b8, 0, none⟩) h.b8s _
end Go.Proofs.Ytgcbdjmlhjbacaa.Gi
