/- walk: a stack of errors is gone through. An error that is wrapped, on the way through it; the set of errors that were seen. -/
import Derived.Test.YtcadlcpccemkbaaGreatDoorMDkFiFp
import Derived.LaidEql
namespace Go.Proofs.YtcadlcpccemkbaaGreatDoor.F
open Go.RowKit Go.Shelf
set_option maxRecDepth 100000
attribute [local go_sem] Oper.semAt_some not_any mf_any ev

theorem wpIn_loop_gh {F : Fence} {n : Nat} {P : Program} {Q : Exit → Act → World → Prop} {a : Act} {w : World} {c : Code} (I : Nat → Act → World → Prop) (n₀ : Nat) (h₀ : I n₀ a w)
    (round : ∀ m a w, I m a w → ∀ K : Act → World → Prop, (∀ a' w' m', m' < m → I m' a' w' → K a' w') → c.wpIn F n P (Exit.then K Q) a w) : (Code.loop c).wpIn F n P Q a w := by
  refine wpIn_loop (fun a w => ∃ m, I m a w) (fun a w => leastOf (fun m => I m a w)) ⟨n₀, h₀⟩ ?_
  intro a w hI
  refine Code.wpIn_mono ?_ (round _ a w (leastOf_spec hI).1 (fun a' w' => ∃ m', m' < leastOf (fun m => I m a w) ∧ I m' a' w') (fun a' w' m' h1 h2 => ⟨m', h1, h2⟩))
  intro e a' w' hq
  cases e with
  | normal =>
    obtain ⟨m', hlt, hI'⟩ := hq
    exact ⟨⟨m', hI'⟩, Nat.lt_of_le_of_lt ((leastOf_spec ⟨m', hI'⟩).2 m' hI') hlt⟩
  | _ => exact hq

def Fr (w : World) (v0 : E) (vis : Value) (ds : List Deferred) (a : Act) : Prop :=
  ∃ x5 x6 x7 x8 x9 x10 x11 x12 x13 x14 x15 x16 x17 x18 x19 x20 x21 x22 x23 x24 x25 x26 x27 x28 x29 x30 x31 x32 x33 x34 x35 x36 x37 x38 x39 x40 x41 x42 x43 x44 x45 x46 x47 x48 x49 x50 x51 x52 x53 x54 x55 x56 x57 x58 x59 : Value, a = { tmps := #[ev v0, vis, undef, undef, .pointer (some ⟨w.heap.size + 1, 0, none⟩), x5, x6, x7, x8, x9, x10, x11, x12, x13, x14, x15, x16, x17, x18, x19, x20, x21, x22, x23, x24, x25, x26, x27, x28, x29, x30, x31, x32, x33, x34, x35, x36, x37, x38, x39, x40, x41, x42, x43, x44, x45, x46, x47, x48, x49, x50, x51, x52, x53, x54, x55, x56, x57, x58, x59], defers := ds }

structure Visits (V : FuncId) (cap : Array Value) (S : Nat → Obj → Prop) (J : Nat → St → World → Prop) (Jend : World → Prop) (n0 : Nat) : Prop where
  enters : ∀ args w, (callFunc V args).run Tryz.prog w = .ok (.enter V args) w
  len : ∀ m st W, J m st W → st.length ≤ 1000000
  stay : ∀ m st W W', J m st W → Kp (So n0) W W' → J m st W'
  stayEnd : ∀ W W', Jend W → Kp (So n0) W W' → Jend W'
  done : ∀ m W, J m [] W → Jend W
  apart : ∀ k o, n0 ≤ k → S k o → ¬ (Sw k o ∨ isRow 26 o ∨ isRow 108 o)
  step : ∀ m x d st W, n0 ≤ W.heap.size → J m ((x, d) :: st) W → 0 ≤ d ∧ d ≤ 1048576 ∧ ∃ ks : List E, ks.length ≤ 1000 ∧
    Calls Tryz.prog 46 #[ev x] W (fun e w' => ∃ sv, e = .returned sv ∧ Below W.heap.size W w' ∧ IsKids w' sv ks ∧ ∀ q len c, sv = .slice (some ⟨q, 0, none⟩) len c → W.heap.size ≤ q) ∧
    ∀ W', Below W.heap.size W W' → Calls Tryz.prog V (#[ev x, .bool ks.isEmpty] ++ cap) W' fun e w'' => ∃ s, e = .returned (.int .i64 s) ∧ Kp S W' w'' ∧
      ((s = 2 ∧ Jend w'') ∨ (s = 1 ∧ ∃ m', m' < m ∧ J m' st w'') ∨ (s = 0 ∧ ∃ m', m' < m ∧ J m' (ks.map (fun k => (k, d + 1)) ++ st) w''))

theorem leave_marks {n n0 : Nat} {tmps : Array Value} {R : Ending → World → Prop} : ∀ (Ds : List Nat) (W : World), Marks n0 Ds W → (∀ W', Kp (So n0) W W' → R (.returned (.tuple #[])) W') →
    LeavesInM Fence.wide n Tryz.prog Tryz.f21 tmps R (marks Ds) .returning W
  | [], W, _, hR => ⟨_, results_none rfl _ _ _, hR W (Kp.refl _ _)⟩
  | D :: Ds, W, hM, hR => by
    obtain ⟨hnd, hh⟩ := hM
    have hD := hh D (by simp)
    obtain ⟨hno, hnd'⟩ := List.nodup_cons.1 hnd
    refine ⟨by simp, .inl ⟨_, _, rfl, run_takeDeferred hD.2, ?_⟩⟩
    have hk : Kp (So n0) W (W.putObj D (.deferred none)) := (Kp.refl _ W).putObj D _ (fun o ho => by
      rw [hD.2] at ho
      cases ho
      exact ⟨hD.1, .inr (.inr rfl)⟩)
    refine leave_marks Ds _ ⟨hnd', fun D' hD' => ⟨(hh D' (by simp [hD'])).1, ?_⟩⟩ (fun W' hW' => hR W' (hk.trans hW'))
    exact (World.putObj_heap_other (fun e => by subst e; exact hno hD')).trans (hh D' (by simp [hD'])).2

set_option maxHeartbeats 2000000 in
theorem walk_any (V : FuncId) (cap : Array Value) (S : Nat → Obj → Prop) (J : Nat → St → World → Prop) (Jend : World → Prop) (m0 : Nat) (w : World) (v0 : E)
    (hV : Visits V cap S J Jend w.heap.size) (hJ0 : J m0 [(v0, 0)] w) :
    Calls Tryz.prog 21 #[ev v0, .func (.func V) #[] cap] w fun e w' => e = .returned (.tuple #[]) ∧ Jend w' ∧ Kp S w w' := by
  refine (callsIn_wide (n := 9)).1 ?_
  refine callsIn_of_wp_marks Tryz.func21 rfl trivial ?_ rfl
  simp only [Tryz.ntmps21, List.size_toArray, List.length_cons, List.length_nil, Nat.reduceAdd, Nat.reduceSub, Array.replicate_succ, Array.replicate_zero, List.push_toArray, List.append_toArray, List.nil_append, List.cons_append]
  gi_wp2
  refine wpIn_loop_gh (fun m a W => ∃ st Ds, Fr w v0 (.func (.func V) #[] cap) (marks Ds) a ∧ Marks w.heap.size Ds W ∧ Rest w.heap.size st W ∧ J m st W ∧ Kp S w W) m0 ?_ ?_
  · refine ⟨[(v0, 0)], [], ?_, ?_, ?_, ?_, ?_⟩
    · unfold Fr
      repeat apply Exists.intro
      rfl
    · exact ⟨List.nodup_nil, fun D h => by cases h⟩
    · refine ⟨.slice (some ⟨w.heap.size, 0, none⟩) 1 1, ?_, ?_⟩
      · have := World.alloc_heap_new (w.alloc (.cells #[.iface v0.1 v0.2, .int .i64 0] 106)) (.cells #[.slice (some ⟨w.heap.size, 0, none⟩) 1 1] 107)
        simpa using this
      · refine ⟨rfl, .inr ⟨w.heap.size, 1, #[.iface v0.1 v0.2, .int .i64 0], rfl, Nat.le_refl _, ?_, Nat.le_refl _, by unfold maxLen; omega, rfl, rfl⟩⟩
        exact (Below.heap_alloc _ _ _ (by simp)).trans (World.alloc_heap_new w _)
    · exact hV.stay _ _ _ _ hJ0 (((Kp.refl _ _).alloc _).alloc _)
    · exact ((Kp.refl _ _).alloc _).alloc _
  · rintro m a W ⟨st, Ds, hFr, hM, ⟨rv, hbox, hrow⟩, hJ, hKp⟩ K hK
    unfold Fr at hFr
    obtain ⟨x5, x6, x7, x8, x9, x10, x11, x12, x13, x14, x15, x16, x17, x18, x19, x20, x21, x22, x23, x24, x25, x26, x27, x28, x29, x30, x31, x32, x33, x34, x35, x36, x37, x38, x39, x40, x41, x42, x43, x44, x45, x46, x47, x48, x49, x50, x51, x52, x53, x54, x55, x56, x57, x58, x59, rfl⟩ := hFr
    have hcb : W.cell? ⟨w.heap.size + 1, 0, none⟩ = some rv := by rw [Lib.cell_of_heap hbox]; rfl
    cases st with
    | nil =>
      obtain ⟨ra, rc, rfl⟩ : ∃ a c, rv = .slice a 0 c := by
        rcases hrow.2 with ⟨h1, _⟩ | ⟨g, cap, cur, h1, _⟩
        · exact ⟨_, _, h1⟩
        · exact ⟨_, _, h1⟩
      gi_wp2
      exact leave_marks Ds _ hM (fun W' hW' => ⟨rfl, hV.stayEnd _ _ (hV.done _ _ hJ) hW', hKp.own hW'⟩)
    | cons x st =>
      obtain ⟨x, d⟩ := x
      obtain ⟨g, cap', rfl⟩ := ownsRow_succ hrow
      have hl := hV.len _ _ _ hJ
      simp only [List.length_cons] at hl
      obtain ⟨hd0, hd, _⟩ := hV.step m x d st W (by have := lt_of_heap hbox; omega) hJ
      have hbl := lt_of_heap hbox
      have hfb : W.frozen? ⟨w.heap.size + 1, 0, none⟩ = false := Lib.frozen_of_heap hbox 0
      have hrc := rowOf_cons (x, d) st
      have hrl := rowOf_length st
      have hc0 : W.cell? ⟨g, st.length * 2, none⟩ = some (.iface x.1 x.2) := by
        have h := hrow.cells (g := g) rfl (st.length * 2) (.iface x.1 x.2) (by rw [hrc]; simp [hrl, ev])
        rwa [addr_add] at h
      have hc1 : W.cell? ⟨g, st.length * 2 + 1, none⟩ = some (.int .i64 d) := by
        have h := hrow.cells (g := g) rfl (st.length * 2 + 1) (.int .i64 d) (by rw [hrc]; simp [hrl])
        rwa [addr_add] at h
      have hcap := row_cap hrow
      clear hrc hrl
      have hgl : g < W.heap.size := lt_cell hc0
      obtain ⟨W1, hW1⟩ : ∃ W1, (W.setCell ⟨w.heap.size + 1, 0, none⟩ (.slice (some ⟨g, 0, none⟩) st.length cap')).alloc (.cells #[.iface x.1 x.2, .int .i64 d] 106) = W1 := ⟨_, rfl⟩
      have hsz1 : W1.heap.size = W.heap.size + 1 := by rw [← hW1]; simp
      have hp1 : W1.heap[W.heap.size]? = some (.cells #[.iface x.1 x.2, .int .i64 d] 106 (0, 0)) := by
        rw [← hW1]
        have := World.alloc_heap_new (W.setCell ⟨w.heap.size + 1, 0, none⟩ (.slice (some ⟨g, 0, none⟩) st.length cap')) (.cells #[.iface x.1 x.2, .int .i64 d] 106)
        simpa using this
      have hk1 : Kp (So w.heap.size) W W1 := by
        rw [← hW1]
        refine ((Kp.refl _ W).setCell _ ?_ _).alloc _
        intro o ho
        rw [hbox] at ho
        cases ho
        exact ⟨by simp, .inr (.inl ⟨_, _, rfl⟩)⟩
      have hkS1 : Kp S w W1 := by
        rw [← hW1]
        exact (hKp.setCell _ (fun o ho => absurd (lt_of_heap ho) (by simp)) _).alloc _
      have hJ1 := hV.stay _ _ _ _ hJ hk1
      have hM1 : Marks w.heap.size Ds W1 := by
        rw [← hW1]
        refine hM.kept (fun k o hk ho hh => (Below.heap_alloc _ _ _ ?_).trans ((Below.heap_setCell _ _ _ _ ?_).trans hh))
        · simpa using lt_of_heap hh
        · rintro rfl
          rw [hbox] at hh
          cases hh
          cases ho
      have hgb : g ≠ w.heap.size + 1 := fun e => by
        obtain ⟨_, c, hc⟩ := row_of_own' hrow g rfl
        rw [e, hbox] at hc
        cases hc
      have hrow' : W.ownsRow w.heap.size 106 2 (.slice (some ⟨g, 0, none⟩) st.length cap') st.length (rowOf st) := by
        have h := hrow
        rw [rowOf_cons] at h
        exact ownsRow_pop (rowOf_length st) h
      have hgne : g ≠ W.heap.size := by omega
      have hR1 : Rest w.heap.size st W1 := by
        rw [← hW1]
        refine ⟨.slice (some ⟨g, 0, none⟩) st.length cap', ?_, ?_⟩
        · exact (Below.heap_alloc _ _ _ (by simpa using hbl)).trans (set_box hbox _)
        · exact (hrow'.kept (grownBy_setCell' W (w.heap.size + 1) _) (.inr (by simpa [Value.ownBlock] using hgb))).alloc _
      have hbx1 : W1.heap[w.heap.size + 1]? = some (.cells #[.slice (some ⟨g, 0, none⟩) st.length cap'] 107 (0, 0)) := by
        rw [← hW1]
        exact (Below.heap_alloc _ _ _ (by simpa using hbl)).trans (set_box hbox _)
      have HW1 : Hid ((W.setCell ⟨w.heap.size + 1, 0, none⟩ (.slice (some ⟨g, 0, none⟩) st.length cap')).alloc (.cells #[.iface x.1 x.2, .int .i64 d] 106) = W1) := hW1
      clear hW1
      gi_wp2_with fail
      rw [HW1.out]
      clear hc0 hc1 hcb hfb hbox hrow
      obtain ⟨_, _, ks, hkl, hcauses, hvis⟩ := hV.step m x d st W1 (by omega) hJ1
      refine ⟨trivial, callsIn_wide.2 (hcauses.mono ?_)⟩
      rintro e W2 ⟨sv, rfl, hb2, hkids, hq⟩
      have hM2 : Marks w.heap.size Ds W2 := hM1.kept (fun k o _ _ hh => (hb2.block k (lt_of_heap hh)).trans hh)
      have hR2 : Rest w.heap.size st W2 := hR1.kept (fun k o _ _ hh => (hb2.block k (lt_of_heap hh)).trans hh)
      have hp2 : W2.heap[W.heap.size]? = some (.cells #[.iface x.1 x.2, .int .i64 d] 106 (0, 0)) := (hb2.block _ (by omega)).trans hp1
      have hkS2 : Kp S w W2 := hkS1.trans (Kp.ofBelow hb2)
      have hpc2 : W2.cell? ⟨W.heap.size, 0, none⟩ = some (.iface x.1 x.2) := by rw [Lib.cell_of_heap hp2]; rfl
      obtain ⟨ka, kc, rfl⟩ : ∃ a c, sv = .slice a ks.length c := by
        rcases hkids with ⟨h1, h2⟩ | ⟨q, c, cs, h1, _⟩
        · exact ⟨_, _, by rw [h1, h2]; rfl⟩
        · exact ⟨_, _, h1⟩
      have hiz := isz ks
      have hen := hV.enters
      have hkf : Hid (IsKids W2 (.slice ka ks.length kc) ks) := hkids
      clear hkids
      gi_wp2_with fail
      clear hiz hen hpc2
      refine ⟨trivial, callsIn_wide.2 ((hvis W2 hb2).mono ?_)⟩
      rintro e W3 ⟨s, rfl, hk3, hs⟩
      have hap : ∀ k o, w.heap.size ≤ k → (Sw k o ∨ isRow 26 o ∨ isRow 108 o) → W2.heap[k]? = some o → W3.heap[k]? = some o := fun k o hk ho hh => hk3.same k o hh (fun hS => hV.apart k o hk hS ho)
      have hM3 : Marks w.heap.size Ds W3 := hM2.kept (fun k o hk ho hh => hap k o hk (.inl (.inr (.inr ho))) hh)
      have hR3 : Rest w.heap.size st W3 := hR2.kept (fun k o hk ho hh => hap k o hk (.inl (ho.elim .inl (fun h => .inr (.inl h)))) hh)
      have hp3 : W3.heap[W.heap.size]? = some (.cells #[.iface x.1 x.2, .int .i64 d] 106 (0, 0)) := hap _ _ (by omega) (.inl (.inl ⟨_, _, rfl⟩)) hp2
      have hkS3 : Kp S w W3 := hkS2.trans hk3
      have hbx3 : W3.heap[w.heap.size + 1]? = some (.cells #[.slice (some ⟨g, 0, none⟩) st.length cap'] 107 (0, 0)) := hap _ _ (by omega) (.inl (.inr (.inl ⟨_, _, rfl⟩))) ((hb2.block _ (by omega)).trans hbx1)
      clear hM1 hM2 hR1 hR2 hp1 hp2 hkS1 hkS2 hJ1 hvis hcauses
      rcases hs with ⟨rfl, hje⟩ | ⟨rfl, m', hlt, hj⟩ | ⟨rfl, m', hlt, hj⟩
      · gi_wp2
        refine leave_marks Ds _ hM3 (fun W' hW' => ⟨rfl, hV.stayEnd _ _ hje hW', hkS3.own hW'⟩)
      · gi_wp2
        refine hK _ _ m' hlt ⟨st, Ds, ?_, hM3, hR3, hj, hkS3⟩
        unfold Fr
        repeat apply Exists.intro
        rfl
      · gi_wp2_with fail
        refine ⟨trivial, (back_in _ _ trivial rfl _ _ _ _).mono ?_⟩
        rintro e W4 ⟨rfl, rfl⟩
        gi_wp2_with fail
        have hW3 := lt_of_heap hp3
        have hsz2 := hb2.size
        have hsz3 := hk3.size
        obtain ⟨rv3, hbox3, hrow3⟩ := hR3
        have hrv3 : rv3 = .slice (some ⟨g, 0, none⟩) st.length cap' := by
          rw [hbx3] at hbox3
          cases hbox3
          rfl
        subst hrv3
        refine push_all w.heap.size W.heap.size W3.heap.size (.slice ka ks.length kc) (.iface x.1 x.2) d st ks Ds _ _ _ _ _ _ _ _ _ _ _ _ _ _ _ _ _ _ _ _ _ _ _ _ _ _ _ _ _ _ _ _ _ _ _ _ _ _ _ _ _ _ _ _ _ _ _ _ _ _ _ _ _ _ _ _ _ _ _
          hd hd0 (by omega) hkl ?_ (World.alloc_heap_new W3 _) ?_ ?_ ?_ ?_
        · have := lt_of_heap hbox3
          simp
          omega
        · rcases hkf.out with h0 | ⟨q, c, cs, h1, h2, h3⟩
          · exact .inl h0
          · have hqq := hq q _ _ h1
            exact .inr ⟨q, c, cs, h1, (Below.heap_alloc _ _ _ (by have := lt_of_heap h2; omega)).trans (hap q _ (by omega) (.inr (.inl ⟨_, _, rfl⟩)) h2), h3⟩
        · refine ⟨⟨_, (Below.heap_alloc _ _ _ (lt_of_heap hbox3)).trans hbox3, hrow3.alloc _, ?_⟩, (Below.heap_alloc _ _ _ hW3).trans hp3, ?_, Kp.refl _ _⟩
          · simpa [Value.ownBlock] using hgne
          · exact hM3.kept (fun k o _ _ hh => (Below.heap_alloc _ _ _ (lt_of_heap hh)).trans hh)
        · intro D hD
          have := lt_of_heap (hM3.2 D hD).2
          simp
          omega
        · intro D ys W5 hD hys hPu hDD
          have hst5 : pushed d ys st = ks.map (fun k => (k, d + 1)) ++ st := by simp [pushed, hys]
          have hk35 : Kp (So w.heap.size) W3 W5 := ((Kp.refl _ W3).alloc _).trans hPu.kp
          refine hK _ _ m' hlt ⟨_, D :: Ds, ?_, ?_, ?_, hV.stay _ _ _ _ hj hk35, hkS3.own hk35⟩
          · unfold Fr
            repeat apply Exists.intro
            rfl
          · refine ⟨List.nodup_cons.2 ⟨fun hmem => ?_, hPu.mks.1⟩, fun D' hD' => ?_⟩
            · have := lt_of_heap (hM3.2 D hmem).2
              simp at hD
              omega
            · rcases List.mem_cons.1 hD' with rfl | h
              · exact ⟨by simp at hD; omega, hDD⟩
              · exact hPu.mks.2 D' h
          · rw [← hst5]
            obtain ⟨⟨rv5, h1, h2, _⟩, _⟩ := hPu
            exact ⟨rv5, h1, h2⟩

end Go.Proofs.YtcadlcpccemkbaaGreatDoor.F

namespace Go.Proofs.YtcadlcpccemkbaaGreatDoor.F
open Go.RowKit Go.Shelf
set_option maxRecDepth 100000
attribute [local go_sem] ta74_74 ta77_74 ta100_74 ta103_74 not_any mf_any method_unwrap

theorem ta74_77 (v : Value) (w : World) : (Instr.typeAssert (.iface 153 v) 26 99 true).run Tryz.prog w = .ok (.tuple #[.pointer none, .bool false]) w := by kernel_rfl

theorem ta77_77 (v : Value) (w : World) : (Instr.typeAssert (.iface 153 v) 26 153 true).run Tryz.prog w = .ok (.tuple #[v, .bool true]) w := by kernel_rfl

attribute [local go_sem] ta74_77 ta77_77

set_option maxHeartbeats 400000 in
theorem isOwn_77 (v : Value) (w : World) :
    Calls Tryz.prog 45 #[.iface 153 v] w fun e w' => e = .returned (.bool true) ∧ w' = w := by
  go_enter Tryz.func45, Tryz.ntmps45
  go_wp2
  go_ret
  exact ⟨rfl, rfl⟩

def Causes (W : World) (v : Value) (ks : List E) : Prop :=
  Calls Tryz.prog 46 #[v] W (fun e w' => ∃ sv, e = .returned sv ∧ Below W.heap.size W w' ∧ IsKids w' sv ks ∧ ∀ q len c, sv = .slice (some ⟨q, 0, none⟩) len c → W.heap.size ≤ q)

theorem kids_root (W : World) (b : Nat) (c : Int) (s : ByteArray) (h : W.heap[b]? = some (.cells #[.int .i64 c, .string s, .nilIface] 101 (0, 0))) : Causes W (.iface 99 (.pointer (some ⟨b, 0, none⟩))) [] := by
  refine (causes_root b W (fault_cells h).2.2).mono ?_
  rintro e w' ⟨rfl, rfl⟩
  exact ⟨_, rfl, (Below.refl _ _).alloc (Nat.le_refl _) _, .inl ⟨rfl, rfl⟩, fun q len c h => by cases h⟩

theorem kids_wrap (W : World) (b : Nat) (s : ByteArray) (e1 : E) (h : W.heap[b]? = some (.cells #[.int .i64 0, .string s, ev e1] 101 (0, 0))) : Causes W (.iface 99 (.pointer (some ⟨b, 0, none⟩))) [e1] := by
  refine (causes_wrap b e1.1 e1.2 W (fault_cells h).2.2).mono ?_
  rintro e w' ⟨rfl, rfl⟩
  refine ⟨_, rfl, ((Below.refl _ _).alloc (Nat.le_refl _) _).alloc (by simp) _, .inr ⟨W.heap.size + 1, 1, #[ev e1], rfl, ?_, ?_⟩, fun q len c h => by cases h; omega⟩
  · have := World.alloc_heap_new (W.alloc (.cells #[.iface 99 (.pointer (some ⟨b, 0, none⟩))] 26)) (.cells #[.iface e1.1 e1.2] 26)
    rw [World.size_alloc] at this
    exact this
  · intro j e hj
    match j, hj with
    | 0, hj => simp at hj; simp [hj]
    | j + 1, hj => simp at hj

theorem low_kept {nE : Nat} {S : Nat → Obj → Prop} {W W' : World} (h : Kp S W W') (hS : ∀ k o, S k o → nE ≤ k) : ∀ b o, b < nE → W.heap[b]? = some o → W'.heap[b]? = some o :=
  fun b o hb ho => h.same b o ho (fun hs => by have := hS b o hs; omega)

theorem So_keep {n1 : Nat} {W W' : World} (hk : Kp (So n1) W W') (k : Nat) (c : Array Value) (t : TypeId) (h1 : t ≠ 106) (h2 : t ≠ 107) (hh : W.heap[k]? = some (.cells c t (0, 0))) : W'.heap[k]? = some (.cells c t (0, 0)) :=
  hk.same k _ hh (fun hs => by
    rcases hs.2 with ⟨_, _, e⟩ | ⟨_, _, e⟩ | e
    · cases e; exact h1 rfl
    · cases e; exact h2 rfl
    · cases e)

attribute [-go_sem] ta74_74 ta77_74 ta100_74 ta103_74 method_unwrap ta74_77 ta77_77

set_option maxHeartbeats 400000 in
theorem number_no (x : E) (w : World) :
    Calls Tryz.prog 23 #[ev x, .bool false] w fun e w' => e = .returned (.tuple #[.int .i64 0, .bool false]) ∧ Below w.heap.size w w' := by
  go_enter Tryz.func23, Tryz.ntmps23
  go_wp2
  go_ret2
  refine ⟨rfl, ?_⟩
  repeat (first | exact Below.refl _ _ | refine Below.alloc ?_ (by simp; try omega) _ | refine Below.setCell ?_ (by simp; try omega) _ | refine Below.drew ?_)

def OwnAt (W : World) (x : E) : Prop := ∃ b, (x = (99, .pointer (some ⟨b, 0, none⟩)) ∧ ∃ c, W.heap[b]? = some (.cells c 101 (0, 0))) ∨ (x = (153, .pointer (some ⟨b, 0, none⟩)) ∧ ∃ c, W.heap[b]? = some (.cells c 232 (0, 0)))

theorem info74 : (Tryz.prog.info? 99).map (·.comparable) = some true := by kernel_rfl

theorem info77 : (Tryz.prog.info? 153).map (·.comparable) = some true := by kernel_rfl

theorem info76 : (Tryz.prog.info? 101).map (·.size) = some 3 := by kernel_rfl

theorem info79 : (Tryz.prog.info? 232).map (·.size) = some 2 := by kernel_rfl

theorem eq_own {W : World} {x y : E} (hx : OwnAt W x) (hy : OwnAt W y) : ∃ r : Bool, (Op.equal 26 (ev x) (ev y)).run Tryz.prog W = .ok r W ∧ (r = true ↔ x = y) := by
  obtain ⟨i, hi, hic⟩ := Option.map_eq_some_iff.1 info74
  obtain ⟨j, hj, hjc⟩ := Option.map_eq_some_iff.1 info77
  obtain ⟨k, hk, hks⟩ := Option.map_eq_some_iff.1 info76
  obtain ⟨l, hl, hls⟩ := Option.map_eq_some_iff.1 info79
  have hdiff : ∀ (t u : TypeId) (v w : Value), t ≠ u → (Op.equal 26 (.iface t v) (.iface u w)).run Tryz.prog W = .ok false W := by
    intro t u v w hne
    have h : ∀ d : Nat, (Op.equalIn (d + 1) 26 (.iface t v) (.iface u w)).run Tryz.prog W = .ok false W := fun d => by simp [Op.equalIn, run_underlying Tryz.underlying26, hne]
    simp [Op.equal, Op.maxDepth, h 9999]
  rcases hx with ⟨b, ⟨rfl, c, hb⟩ | ⟨rfl, c, hb⟩⟩ <;> rcases hy with ⟨b', ⟨rfl, c', hb'⟩ | ⟨rfl, c', hb'⟩⟩
  · by_cases e : b = b'
    · subst e
      refine ⟨true, ?_, by simp⟩
      have := run_equalIn_iface_ptr_same W 9998 (⟨b, 0, none⟩ : Addr) Tryz.underlying26 Tryz.underlying99 hi hic hk
      simpa [Op.equal, Op.maxDepth, ev] using this
    · refine ⟨false, ?_, by simp⟩
      have := run_equalIn_iface_ptr_other W 9998 (a := (⟨b, 0, none⟩ : Addr)) (b := (⟨b', 0, none⟩ : Addr)) Tryz.underlying26 Tryz.underlying99 hi hic hk (by omega) (by simp) hb hb'
      simpa [Op.equal, Op.maxDepth, ev] using this
  · exact ⟨false, hdiff _ _ _ _ (by simp), by simp⟩
  · exact ⟨false, hdiff _ _ _ _ (by simp), by simp⟩
  · by_cases e : b = b'
    · subst e
      refine ⟨true, ?_, by simp⟩
      have := run_equalIn_iface_ptr_same W 9998 (⟨b, 0, none⟩ : Addr) Tryz.underlying26 Tryz.underlying153 hj hjc hl
      simpa [Op.equal, Op.maxDepth, ev] using this
    · refine ⟨false, ?_, by simp⟩
      have := run_equalIn_iface_ptr_other W 9998 (a := (⟨b, 0, none⟩ : Addr)) (b := (⟨b', 0, none⟩ : Addr)) Tryz.underlying26 Tryz.underlying153 hj hjc hl (by omega) (by simp) hb hb'
      simpa [Op.equal, Op.maxDepth, ev] using this

def Entries (W : World) (es : List MapEntry) (ks : List E) : Prop :=
  es.map (·.key) = ks.map ev ∧ (∀ m ∈ es, m.val = .agg #[]) ∧ ∀ k ∈ ks, OwnAt W k

theorem find_own {W : World} {x : E} (hx : OwnAt W x) : ∀ (es : List MapEntry) (ks : List E) (i : Nat), Entries W es ks →
    ∃ r, (Instr.findAsking 26 (ev x) es i).run Tryz.prog W = .ok r W ∧ ((∃ n, r = some (n, .agg #[])) ↔ x ∈ ks) ∧ (r = none ↔ x ∉ ks)
  | [], [], i, _ => ⟨none, by simp [Instr.findAsking], by simp, by simp⟩
  | [], k :: ks, i, h => by simp [Entries] at h
  | e :: es, [], i, h => by simp [Entries] at h
  | e :: es, k :: ks, i, h => by
    obtain ⟨h1, h2, h3⟩ := h
    simp at h1
    obtain ⟨r, hr, hrk⟩ := eq_own hx (h3 k (by simp))
    cases r with
    | true =>
      have e1 : x = k := hrk.1 rfl
      refine ⟨some (i, e.val), ?_, ?_, ?_⟩
      · simp [Instr.findAsking, h1.1, hr, Result.andThen]
      · simp [h2 e (by simp), e1]
      · simp [e1]
    | false =>
      have e1 : x ≠ k := fun e => by have := hrk.2 e; cases this
      obtain ⟨r, hr2, h4, h5⟩ := find_own hx es ks (i + 1) ⟨h1.2, fun m hm => h2 m (by simp [hm]), fun k' hk' => h3 k' (by simp [hk'])⟩
      refine ⟨r, ?_, ?_, ?_⟩
      · simp [Instr.findAsking, h1.1, hr, Result.andThen, hr2]
      · rw [h4]; simp [e1]
      · rw [h5]; simp [e1]

theorem check_own {W : World} {x : E} (hx : OwnAt W x) (b : Bool) : (Instr.checkKey b 10000 26 (ev x)).run Tryz.prog W = .ok () W := by
  obtain ⟨i, hi, hic⟩ := Option.map_eq_some_iff.1 info74
  obtain ⟨j, hj, hjc⟩ := Option.map_eq_some_iff.1 info77
  have h : ∀ d : Nat, (Instr.checkKey b (d + 2) 26 (ev x)).run Tryz.prog W = .ok () W := by
    intro d
    rcases hx with ⟨b', ⟨rfl, _⟩ | ⟨rfl, _⟩⟩
    · simp [Instr.checkKey, ev, run_underlying Tryz.underlying26, run_underlying Tryz.underlying99, typeInfo, hi, hic]
    · simp [Instr.checkKey, ev, run_underlying Tryz.underlying26, run_underlying Tryz.underlying153, typeInfo, hj, hjc]
  exact h 9998

theorem findKey_own {W : World} {x : E} (hx : OwnAt W x) {es : List MapEntry} {ks : List E} (h : Entries W es ks) :
    ∃ r, (Instr.findKey 26 (ev x) es).run Tryz.prog W = .ok r W ∧ ((∃ n, r = some (n, .agg #[])) ↔ x ∈ ks) ∧ (r = none ↔ x ∉ ks) := by
  obtain ⟨r, hr, h1, h2⟩ := find_own hx es ks 0 h
  refine ⟨r, ?_, h1, h2⟩
  cases es with
  | nil =>
    simp [Instr.findAsking] at hr
    simp [Instr.findKey, run_underlying Tryz.underlying26, Instr.findNow, hr]
  | cons e es =>
    have hs : Instr.sameNow (.interface #[("Error", 121)]) (ev x) e.key = none := by simp [Instr.sameNow]
    simp [Instr.findKey, run_underlying Tryz.underlying26, Instr.findNow, hs, hr]

theorem look_own {W : World} {x : E} (hx : OwnAt W x) {bM clock : Nat} {es : Array MapEntry} {ks : List E} (hm : W.heap[bM]? = some (.map es clock)) (h : Entries W es.toList ks) :
    ∃ ok : Bool, (Instr.lookup 102 (.map (some bM)) (ev x) true).run Tryz.prog W = .ok (.tuple #[.agg #[], .bool ok]) W ∧ (ok = true ↔ x ∈ ks) := by
  obtain ⟨r, hr, h1, h2⟩ := findKey_own hx h
  have hz := Tryz.zeroValue103 W
  cases r with
  | none =>
    refine ⟨false, ?_, by simpa using h2⟩
    simp [Instr.lookup, run_underlying Tryz.underlying102, getObj, Sem.run, hm, check_own hx, hr, hz, Result.andThen]
  | some p =>
    have hin : x ∈ ks := Classical.byContradiction fun hn => by have := h2.2 hn; cases this
    obtain ⟨n, hn⟩ := h1.2 hin
    cases hn
    refine ⟨true, ?_, by simp [hin]⟩
    simp [Instr.lookup, run_underlying Tryz.underlying102, getObj, Sem.run, hm, check_own hx, hr, Result.andThen]

theorem update_own {W : World} {x : E} (hx : OwnAt W x) {bM clock : Nat} {es : Array MapEntry} {ks : List E} (hm : W.heap[bM]? = some (.map es clock)) (h : Entries W es.toList ks) (hn : x ∉ ks) :
    (Instr.mapUpdate 102 (.map (some bM)) (ev x) (.agg #[])).run Tryz.prog W = .ok () (W.putObj bM (.map (es.push { key := ev x, val := .agg #[], born := clock }) (clock + 1))) := by
  obtain ⟨r, hr, h1, h2⟩ := findKey_own hx h
  have hrn := h2.2 hn
  subst hrn
  simp [Instr.mapUpdate, run_underlying Tryz.underlying102, getObj, setObj, Sem.run, hm, check_own hx, hr, Result.andThen, World.putObj]

def Seen (bS bM : Nat) (ks : List E) (W : World) : Prop :=
  W.heap[bS]? = some (.cells #[.map (some bM)] 102 (0, 0)) ∧ ∃ es clock, W.heap[bM]? = some (.map es clock) ∧ Entries W es.toList ks

theorem isOwn_own {W : World} {x : E} (hx : OwnAt W x) (w : World) : Calls Tryz.prog 45 #[ev x] w fun e w' => e = .returned (.bool true) ∧ w' = w := by
  rcases hx with ⟨b, ⟨rfl, _⟩ | ⟨rfl, _⟩⟩
  · exact isOwn_74 _ w
  · exact isOwn_77 _ w

def Owns (W W' : World) : Prop := ∀ (b : Nat) (c : Array Value) (t : TypeId), W.heap[b]? = some (.cells c t (0, 0)) → (t = 101 ∨ t = 232) → W'.heap[b]? = some (.cells c t (0, 0))

theorem OwnAt.kept {W W' : World} {x : E} (h : OwnAt W x) (hk : Owns W W') : OwnAt W' x := by
  obtain ⟨b, ⟨h1, c, h2⟩ | ⟨h1, c, h2⟩⟩ := h
  · exact ⟨b, .inl ⟨h1, c, hk _ _ _ h2 (.inl rfl)⟩⟩
  · exact ⟨b, .inr ⟨h1, c, hk _ _ _ h2 (.inr rfl)⟩⟩

theorem Entries.kept {W W' : World} {es : List MapEntry} {ks : List E} (h : Entries W es ks) (hk : Owns W W') : Entries W' es ks :=
  ⟨h.1, h.2.1, fun k hm => (h.2.2 k hm).kept hk⟩

theorem alloc_keeps (W : World) (o : Obj) : Owns W (W.alloc o) :=
  fun _ _ _ h _ => (Below.heap_alloc _ _ _ (lt_of_heap h)).trans h

set_option maxHeartbeats 1000000 in
theorem once_new (x : E) (bS bM : Nat) (ks : List E) (W : World) (hx : OwnAt W x) (hs : Seen bS bM ks W) (hn : x ∉ ks) :
    Calls Tryz.prog 44 #[ev x, .pointer (some ⟨bS, 0, none⟩)] W fun e w' => e = .returned (.int .i64 0) ∧ Seen bS bM (ks ++ [x]) w' ∧ Kp (fun k _ => k = bM) W w' := by
  obtain ⟨hbox, es, clock, hm, hE⟩ := hs
  have hc : W.cell? ⟨bS, 0, none⟩ = some (.map (some bM)) := by simp [World.cell?, hbox]
  obtain ⟨ok, hlook, hok⟩ := look_own hx hm hE
  have hokf : ok = false := by cases ok with | false => rfl | true => exact absurd (hok.1 rfl) hn
  subst hokf
  have hbl := lt_of_heap hbox
  have hml := lt_of_heap hm
  have hup := update_own (W := W.alloc (.cells #[] 103)) (hx.kept (alloc_keeps W _)) ((Below.heap_alloc _ _ _ hml).trans hm) (hE.kept (alloc_keeps W _)) hn
  have HO := hide1 (isOwn_own hx)
  have HX := hide1 (And.intro hx (And.intro hE (And.intro hbox hm)))
  clear hx hok hE hbox hm
  go_enter Tryz.func44, Tryz.ntmps44
  go_wp2_with (go_at_call 45; refine (HO.out _).mono ?_; rintro e w' ⟨rfl, rfl⟩)
  go_ret
  obtain ⟨hx, hE, hbox, hm⟩ := HX.out
  have hne : bS ≠ bM := fun e => by rw [e, hm] at hbox; cases hbox
  have hkk : Owns w' ((w'.alloc (.cells #[] 103)).putObj bM (.map (es.push { key := ev x, val := .agg #[], born := clock }) (clock + 1))) := fun b c t h ht =>
    (World.putObj_heap_other (fun e => by rw [e, hm] at h; cases h)).trans (alloc_keeps w' _ b c t h ht)
  refine ⟨rfl, ⟨?_, _, _, World.putObj_heap_same (Nat.lt_of_lt_of_le hml (by simp)), ?_⟩, ?_⟩
  · exact (World.putObj_heap_other hne).trans ((Below.heap_alloc _ _ _ hbl).trans hbox)
  · obtain ⟨h1, h2, h3⟩ := hE
    refine ⟨by simp [h1], ?_, ?_⟩
    · intro m hm'
      simp at hm'
      rcases hm' with hm' | rfl
      · exact h2 m (by simpa using hm')
      · rfl
    · intro k hk
      rcases List.mem_append.1 hk with hk | hk
      · exact (h3 k hk).kept hkk
      · obtain rfl := List.mem_singleton.1 hk
        exact hx.kept hkk
  · exact ((Kp.refl _ w').alloc _).putObj bM _ (fun _ _ => rfl)

theorem Below.owns {W W' : World} (h : Below W.heap.size W W') : Owns W W' := fun b _ _ hb _ => (h.block b (lt_of_heap hb)).trans hb

theorem Seen.below {bS bM : Nat} {ks : List E} {W W' : World} (h : Seen bS bM ks W) (hB : Below W.heap.size W W') : Seen bS bM ks W' := by
  obtain ⟨h1, es, clock, h2, h3⟩ := h
  exact ⟨(hB.block _ (lt_of_heap h1)).trans h1, es, clock, (hB.block _ (lt_of_heap h2)).trans h2, h3.kept (Below.owns hB)⟩

set_option maxHeartbeats 1000000 in
theorem codeV_in (x : E) (p : Value) (bO bS bM : Nat) (ks : List E) (W : World) (hO : W.heap[bO]? = some (.cells #[.func (.func 44) #[] #[.pointer (some ⟨bS, 0, none⟩)]] 68 (0, 0)))
    (hh : ∀ W1, Below W.heap.size W W1 → Calls Tryz.prog 24 #[ev x] W1 fun e w' => e = .returned (.bool false) ∧ w' = W1) (hx : OwnAt W x) (hs : Seen bS bM ks W) (hn : x ∉ ks) :
    Calls Tryz.prog 22 #[ev x, .bool false, p, .pointer (some ⟨bO, 0, none⟩)] W fun e w' => e = .returned (.int .i64 0) ∧ Seen bS bM (ks ++ [x]) w' ∧ Kp (fun k _ => k = bM) W w' := by
  have H := hide1 (And.intro hh (And.intro hx (And.intro hs hn)))
  clear hh hx hs hn
  go_enter Tryz.func22, Tryz.ntmps22
  go_wp2_with fail
  refine (number_no x W).mono ?_
  rintro e w1 ⟨rfl, hB⟩
  have hO1 := (hB.block _ (lt_of_heap hO)).trans hO
  have hc1 : w1.cell? ⟨bO, 0, none⟩ = some (.func (.func 44) #[] #[.pointer (some ⟨bS, 0, none⟩)]) := by simp [World.cell?, hO1]
  go_wp2_with fail
  obtain ⟨hh, hx, hs, hn⟩ := H.out
  refine (hh w1 hB).mono ?_
  rintro e w2 ⟨rfl, rfl⟩
  go_wp2_with fail
  refine (once_new x bS bM ks w2 (hx.kept (Below.owns hB)) (hs.below hB) hn).mono ?_
  rintro e w3 ⟨rfl, hs3, hk3⟩
  go_wp2
  go_ret
  exact ⟨rfl, hs3, (Kp.ofBelow hB).trans hk3⟩

end Go.Proofs.YtcadlcpccemkbaaGreatDoor.F
