/- walk: a stack of errors is gone through. -/
import Derived.Test.YtcgpokbijaioiaaDoorFp
namespace Go.Proofs.YtcgpokbijaioiaaDoor.F
open Go.RowKit Go.Shelf
set_option maxRecDepth 100000
attribute [local go_sem] Oper.semAt_some not_any mf_any ev

theorem wpIn_loop_gh {F : Fence} {n : Nat} {P : Program} {Q : Exit → Act → World → Prop} {a : Act} {w : World} {c : Code} (I : Nat → Act → World → Prop) (n₀ : Nat) (h₀ : I n₀ a w)
    (round : ∀ m a w, I m a w → ∀ K : Act → World → Prop, (∀ a' w' m', m' < m → I m' a' w' → K a' w') → c.wpIn F n P (Exit.then K Q) a w) : (Code.loop c).wpIn F n P Q a w := by
  refine wpIn_loop (fun a w => ∃ m, I m a w) (fun a w => leastOf (fun m => I m a w)) ⟨n₀, h₀⟩ ?_
  intro a w hI
  refine Code.wpIn_mono ?_ (round _ a w (leastOf_spec hI).1 (fun a' w' => ∃ m', m' < leastOf (fun m => I m a w) ∧ I m' a' w') (fun a' w' m' h1 h2 => ⟨m', h1, h2⟩))
  intro e a' w' hq
  cases e with
  | normal =>
    obtain ⟨m', hlt, hI'⟩ := hq
    exact ⟨⟨m', hI'⟩, Nat.lt_of_le_of_lt ((leastOf_spec ⟨m', hI'⟩).2 m' hI') hlt⟩
  | _ => exact hq

def Fr (w : World) (v0 : E) (vis : Value) (ds : List Deferred) (a : Act) : Prop :=
  ∃ x5 x6 x7 x8 x9 x10 x11 x12 x13 x14 x15 x16 x17 x18 x19 x20 x21 x22 x23 x24 x25 x26 x27 x28 x29 x30 x31 x32 x33 x34 x35 x36 x37 x38 x39 x40 x41 x42 x43 x44 x45 x46 x47 x48 x49 x50 x51 x52 x53 x54 x55 x56 x57 x58 x59 : Value, a = { tmps := #[ev v0, vis, undef, undef, .pointer (some ⟨w.heap.size + 1, 0, none⟩), x5, x6, x7, x8, x9, x10, x11, x12, x13, x14, x15, x16, x17, x18, x19, x20, x21, x22, x23, x24, x25, x26, x27, x28, x29, x30, x31, x32, x33, x34, x35, x36, x37, x38, x39, x40, x41, x42, x43, x44, x45, x46, x47, x48, x49, x50, x51, x52, x53, x54, x55, x56, x57, x58, x59], defers := ds }

structure Visits (V : FuncId) (cap : Array Value) (S : Nat → Obj → Prop) (J : Nat → St → World → Prop) (Jend : World → Prop) (n0 : Nat) : Prop where
  enters : ∀ args w, (callFunc V args).run Tryd.prog w = .ok (.enter V args) w
  len : ∀ m st W, J m st W → st.length ≤ 1000000
  stay : ∀ m st W W', J m st W → Kp (So n0) W W' → J m st W'
  stayEnd : ∀ W W', Jend W → Kp (So n0) W W' → Jend W'
  done : ∀ m W, J m [] W → Jend W
  apart : ∀ k o, n0 ≤ k → S k o → ¬ (Sw k o ∨ isRow 27 o ∨ isRow 87 o)
  step : ∀ m x d st W, n0 ≤ W.heap.size → J m ((x, d) :: st) W → 0 ≤ d ∧ d ≤ 1048576 ∧ ∃ ks : List E, ks.length ≤ 1000 ∧
    Calls Tryd.prog 38 #[ev x] W (fun e w' => ∃ sv, e = .returned sv ∧ Below W.heap.size W w' ∧ IsKids w' sv ks ∧ ∀ q len c, sv = .slice (some ⟨q, 0, none⟩) len c → W.heap.size ≤ q) ∧
    ∀ W', Below W.heap.size W W' → Calls Tryd.prog V (#[ev x, .bool ks.isEmpty] ++ cap) W' fun e w'' => ∃ s, e = .returned (.int .i64 s) ∧ Kp S W' w'' ∧
      ((s = 2 ∧ Jend w'') ∨ (s = 1 ∧ ∃ m', m' < m ∧ J m' st w'') ∨ (s = 0 ∧ ∃ m', m' < m ∧ J m' (ks.map (fun k => (k, d + 1)) ++ st) w''))

theorem leave_marks {n n0 : Nat} {tmps : Array Value} {R : Ending → World → Prop} : ∀ (Ds : List Nat) (W : World), Marks n0 Ds W → (∀ W', Kp (So n0) W W' → R (.returned (.tuple #[])) W') →
    LeavesInM Fence.wide n Tryd.prog Tryd.f23 tmps R (marks Ds) .returning W
  | [], W, _, hR => ⟨_, results_none rfl _ _ _, hR W (Kp.refl _ _)⟩
  | D :: Ds, W, hM, hR => by
    obtain ⟨hnd, hh⟩ := hM
    have hD := hh D (by simp)
    obtain ⟨hno, hnd'⟩ := List.nodup_cons.1 hnd
    refine ⟨by simp, .inl ⟨_, _, rfl, run_takeDeferred hD.2, ?_⟩⟩
    have hk : Kp (So n0) W (W.putObj D (.deferred none)) := (Kp.refl _ W).putObj D _ (fun o ho => by
      rw [hD.2] at ho
      cases ho
      exact ⟨hD.1, .inr (.inr rfl)⟩)
    refine leave_marks Ds _ ⟨hnd', fun D' hD' => ⟨(hh D' (by simp [hD'])).1, ?_⟩⟩ (fun W' hW' => hR W' (hk.trans hW'))
    exact (World.putObj_heap_other (fun e => by subst e; exact hno hD')).trans (hh D' (by simp [hD'])).2

set_option maxHeartbeats 2000000 in
theorem walk_any (V : FuncId) (cap : Array Value) (S : Nat → Obj → Prop) (J : Nat → St → World → Prop) (Jend : World → Prop) (m0 : Nat) (w : World) (v0 : E)
    (hV : Visits V cap S J Jend w.heap.size) (hJ0 : J m0 [(v0, 0)] w) :
    Calls Tryd.prog 23 #[ev v0, .func (.func V) #[] cap] w fun e w' => e = .returned (.tuple #[]) ∧ Jend w' ∧ Kp S w w' := by
  refine (callsIn_wide (n := 9)).1 ?_
  refine callsIn_of_wp_marks Tryd.func23 rfl trivial ?_ rfl
  simp only [Tryd.ntmps23, List.size_toArray, List.length_cons, List.length_nil, Nat.reduceAdd, Nat.reduceSub, Array.replicate_succ, Array.replicate_zero, List.push_toArray, List.append_toArray, List.nil_append, List.cons_append]
  gi_wp2
  refine wpIn_loop_gh (fun m a W => ∃ st Ds, Fr w v0 (.func (.func V) #[] cap) (marks Ds) a ∧ Marks w.heap.size Ds W ∧ Rest w.heap.size st W ∧ J m st W ∧ Kp S w W) m0 ?_ ?_
  · refine ⟨[(v0, 0)], [], ?_, ?_, ?_, ?_, ?_⟩
    · unfold Fr
      repeat apply Exists.intro
      rfl
    · exact ⟨List.nodup_nil, fun D h => by cases h⟩
    · refine ⟨.slice (some ⟨w.heap.size, 0, none⟩) 1 1, ?_, ?_⟩
      · have := World.alloc_heap_new (w.alloc (.cells #[.iface v0.1 v0.2, .int .i64 0] 85)) (.cells #[.slice (some ⟨w.heap.size, 0, none⟩) 1 1] 86)
        simpa using this
      · refine ⟨rfl, .inr ⟨w.heap.size, 1, #[.iface v0.1 v0.2, .int .i64 0], rfl, Nat.le_refl _, ?_, Nat.le_refl _, by unfold maxLen; omega, rfl, rfl⟩⟩
        exact (Below.heap_alloc _ _ _ (by simp)).trans (World.alloc_heap_new w _)
    · exact hV.stay _ _ _ _ hJ0 (((Kp.refl _ _).alloc _).alloc _)
    · exact ((Kp.refl _ _).alloc _).alloc _
  · rintro m a W ⟨st, Ds, hFr, hM, ⟨rv, hbox, hrow⟩, hJ, hKp⟩ K hK
    unfold Fr at hFr
    obtain ⟨x5, x6, x7, x8, x9, x10, x11, x12, x13, x14, x15, x16, x17, x18, x19, x20, x21, x22, x23, x24, x25, x26, x27, x28, x29, x30, x31, x32, x33, x34, x35, x36, x37, x38, x39, x40, x41, x42, x43, x44, x45, x46, x47, x48, x49, x50, x51, x52, x53, x54, x55, x56, x57, x58, x59, rfl⟩ := hFr
    have hcb : W.cell? ⟨w.heap.size + 1, 0, none⟩ = some rv := by rw [Lib.cell_of_heap hbox]; rfl
    cases st with
    | nil =>
      obtain ⟨ra, rc, rfl⟩ : ∃ a c, rv = .slice a 0 c := by
        rcases hrow.2 with ⟨h1, _⟩ | ⟨g, cap, cur, h1, _⟩
        · exact ⟨_, _, h1⟩
        · exact ⟨_, _, h1⟩
      gi_wp2
      exact leave_marks Ds _ hM (fun W' hW' => ⟨rfl, hV.stayEnd _ _ (hV.done _ _ hJ) hW', hKp.own hW'⟩)
    | cons x st =>
      obtain ⟨x, d⟩ := x
      obtain ⟨g, cap', rfl⟩ := ownsRow_succ hrow
      have hl := hV.len _ _ _ hJ
      simp only [List.length_cons] at hl
      obtain ⟨hd0, hd, _⟩ := hV.step m x d st W (by have := lt_of_heap hbox; omega) hJ
      have hbl := lt_of_heap hbox
      have hfb : W.frozen? ⟨w.heap.size + 1, 0, none⟩ = false := Lib.frozen_of_heap hbox 0
      have hrc := rowOf_cons (x, d) st
      have hrl := rowOf_length st
      have hc0 : W.cell? ⟨g, st.length * 2, none⟩ = some (.iface x.1 x.2) := by
        have h := hrow.cells (g := g) rfl (st.length * 2) (.iface x.1 x.2) (by rw [hrc]; simp [hrl, ev])
        rwa [addr_add] at h
      have hc1 : W.cell? ⟨g, st.length * 2 + 1, none⟩ = some (.int .i64 d) := by
        have h := hrow.cells (g := g) rfl (st.length * 2 + 1) (.int .i64 d) (by rw [hrc]; simp [hrl])
        rwa [addr_add] at h
      have hcap := row_cap hrow
      clear hrc hrl
      have hgl : g < W.heap.size := lt_cell hc0
      obtain ⟨W1, hW1⟩ : ∃ W1, (W.setCell ⟨w.heap.size + 1, 0, none⟩ (.slice (some ⟨g, 0, none⟩) st.length cap')).alloc (.cells #[.iface x.1 x.2, .int .i64 d] 85) = W1 := ⟨_, rfl⟩
      have hsz1 : W1.heap.size = W.heap.size + 1 := by rw [← hW1]; simp
      have hp1 : W1.heap[W.heap.size]? = some (.cells #[.iface x.1 x.2, .int .i64 d] 85 (0, 0)) := by
        rw [← hW1]
        have := World.alloc_heap_new (W.setCell ⟨w.heap.size + 1, 0, none⟩ (.slice (some ⟨g, 0, none⟩) st.length cap')) (.cells #[.iface x.1 x.2, .int .i64 d] 85)
        simpa using this
      have hk1 : Kp (So w.heap.size) W W1 := by
        rw [← hW1]
        refine ((Kp.refl _ W).setCell _ ?_ _).alloc _
        intro o ho
        rw [hbox] at ho
        cases ho
        exact ⟨by simp, .inr (.inl ⟨_, _, rfl⟩)⟩
      have hkS1 : Kp S w W1 := by
        rw [← hW1]
        exact (hKp.setCell _ (fun o ho => absurd (lt_of_heap ho) (by simp)) _).alloc _
      have hJ1 := hV.stay _ _ _ _ hJ hk1
      have hM1 : Marks w.heap.size Ds W1 := by
        rw [← hW1]
        refine hM.kept (fun k o hk ho hh => (Below.heap_alloc _ _ _ ?_).trans ((Below.heap_setCell _ _ _ _ ?_).trans hh))
        · simpa using lt_of_heap hh
        · rintro rfl
          rw [hbox] at hh
          cases hh
          cases ho
      have hgb : g ≠ w.heap.size + 1 := fun e => by
        obtain ⟨_, c, hc⟩ := row_of_own' hrow g rfl
        rw [e, hbox] at hc
        cases hc
      have hrow' : W.ownsRow w.heap.size 85 2 (.slice (some ⟨g, 0, none⟩) st.length cap') st.length (rowOf st) := by
        have h := hrow
        rw [rowOf_cons] at h
        exact ownsRow_pop (rowOf_length st) h
      have hgne : g ≠ W.heap.size := by omega
      have hR1 : Rest w.heap.size st W1 := by
        rw [← hW1]
        refine ⟨.slice (some ⟨g, 0, none⟩) st.length cap', ?_, ?_⟩
        · exact (Below.heap_alloc _ _ _ (by simpa using hbl)).trans (set_box hbox _)
        · exact (hrow'.kept (grownBy_setCell' W (w.heap.size + 1) _) (.inr (by simpa [Value.ownBlock] using hgb))).alloc _
      have hbx1 : W1.heap[w.heap.size + 1]? = some (.cells #[.slice (some ⟨g, 0, none⟩) st.length cap'] 86 (0, 0)) := by
        rw [← hW1]
        exact (Below.heap_alloc _ _ _ (by simpa using hbl)).trans (set_box hbox _)
      have HW1 : Hid ((W.setCell ⟨w.heap.size + 1, 0, none⟩ (.slice (some ⟨g, 0, none⟩) st.length cap')).alloc (.cells #[.iface x.1 x.2, .int .i64 d] 85) = W1) := hW1
      clear hW1
      gi_wp2_with fail
      rw [HW1.out]
      clear hc0 hc1 hcb hfb hbox hrow
      obtain ⟨_, _, ks, hkl, hcauses, hvis⟩ := hV.step m x d st W1 (by omega) hJ1
      refine ⟨trivial, callsIn_wide.2 (hcauses.mono ?_)⟩
      rintro e W2 ⟨sv, rfl, hb2, hkids, hq⟩
      have hM2 : Marks w.heap.size Ds W2 := hM1.kept (fun k o _ _ hh => (hb2.block k (lt_of_heap hh)).trans hh)
      have hR2 : Rest w.heap.size st W2 := hR1.kept (fun k o _ _ hh => (hb2.block k (lt_of_heap hh)).trans hh)
      have hp2 : W2.heap[W.heap.size]? = some (.cells #[.iface x.1 x.2, .int .i64 d] 85 (0, 0)) := (hb2.block _ (by omega)).trans hp1
      have hkS2 : Kp S w W2 := hkS1.trans (Kp.ofBelow hb2)
      have hpc2 : W2.cell? ⟨W.heap.size, 0, none⟩ = some (.iface x.1 x.2) := by rw [Lib.cell_of_heap hp2]; rfl
      obtain ⟨ka, kc, rfl⟩ : ∃ a c, sv = .slice a ks.length c := by
        rcases hkids with ⟨h1, h2⟩ | ⟨q, c, cs, h1, _⟩
        · exact ⟨_, _, by rw [h1, h2]; rfl⟩
        · exact ⟨_, _, h1⟩
      have hiz := isz ks
      have hen := hV.enters
      have hkf : Hid (IsKids W2 (.slice ka ks.length kc) ks) := hkids
      clear hkids
      gi_wp2_with fail
      clear hiz hen hpc2
      refine ⟨trivial, callsIn_wide.2 ((hvis W2 hb2).mono ?_)⟩
      rintro e W3 ⟨s, rfl, hk3, hs⟩
      have hap : ∀ k o, w.heap.size ≤ k → (Sw k o ∨ isRow 27 o ∨ isRow 87 o) → W2.heap[k]? = some o → W3.heap[k]? = some o := fun k o hk ho hh => hk3.same k o hh (fun hS => hV.apart k o hk hS ho)
      have hM3 : Marks w.heap.size Ds W3 := hM2.kept (fun k o hk ho hh => hap k o hk (.inl (.inr (.inr ho))) hh)
      have hR3 : Rest w.heap.size st W3 := hR2.kept (fun k o hk ho hh => hap k o hk (.inl (ho.elim .inl (fun h => .inr (.inl h)))) hh)
      have hp3 : W3.heap[W.heap.size]? = some (.cells #[.iface x.1 x.2, .int .i64 d] 85 (0, 0)) := hap _ _ (by omega) (.inl (.inl ⟨_, _, rfl⟩)) hp2
      have hkS3 : Kp S w W3 := hkS2.trans hk3
      have hbx3 : W3.heap[w.heap.size + 1]? = some (.cells #[.slice (some ⟨g, 0, none⟩) st.length cap'] 86 (0, 0)) := hap _ _ (by omega) (.inl (.inr (.inl ⟨_, _, rfl⟩))) ((hb2.block _ (by omega)).trans hbx1)
      clear hM1 hM2 hR1 hR2 hp1 hp2 hkS1 hkS2 hJ1 hvis hcauses
      rcases hs with ⟨rfl, hje⟩ | ⟨rfl, m', hlt, hj⟩ | ⟨rfl, m', hlt, hj⟩
      · gi_wp2
        refine leave_marks Ds _ hM3 (fun W' hW' => ⟨rfl, hV.stayEnd _ _ hje hW', hkS3.own hW'⟩)
      · gi_wp2
        refine hK _ _ m' hlt ⟨st, Ds, ?_, hM3, hR3, hj, hkS3⟩
        unfold Fr
        repeat apply Exists.intro
        rfl
      · gi_wp2_with fail
        refine ⟨trivial, (back_in _ _ trivial rfl _ _ _ _).mono ?_⟩
        rintro e W4 ⟨rfl, rfl⟩
        gi_wp2_with fail
        have hW3 := lt_of_heap hp3
        have hsz2 := hb2.size
        have hsz3 := hk3.size
        obtain ⟨rv3, hbox3, hrow3⟩ := hR3
        have hrv3 : rv3 = .slice (some ⟨g, 0, none⟩) st.length cap' := by
          rw [hbx3] at hbox3
          cases hbox3
          rfl
        subst hrv3
        refine push_all w.heap.size W.heap.size W3.heap.size (.slice ka ks.length kc) (.iface x.1 x.2) d st ks Ds _ _ _ _ _ _ _ _ _ _ _ _ _ _ _ _ _ _ _ _ _ _ _ _ _ _ _ _ _ _ _ _ _ _ _ _ _ _ _ _ _ _ _ _ _ _ _ _ _ _ _ _ _ _ _ _ _ _ _
          hd hd0 (by omega) hkl ?_ (World.alloc_heap_new W3 _) ?_ ?_ ?_ ?_
        · have := lt_of_heap hbox3
          simp
          omega
        · rcases hkf.out with h0 | ⟨q, c, cs, h1, h2, h3⟩
          · exact .inl h0
          · have hqq := hq q _ _ h1
            exact .inr ⟨q, c, cs, h1, (Below.heap_alloc _ _ _ (by have := lt_of_heap h2; omega)).trans (hap q _ (by omega) (.inr (.inl ⟨_, _, rfl⟩)) h2), h3⟩
        · refine ⟨⟨_, (Below.heap_alloc _ _ _ (lt_of_heap hbox3)).trans hbox3, hrow3.alloc _, ?_⟩, (Below.heap_alloc _ _ _ hW3).trans hp3, ?_, Kp.refl _ _⟩
          · simpa [Value.ownBlock] using hgne
          · exact hM3.kept (fun k o _ _ hh => (Below.heap_alloc _ _ _ (lt_of_heap hh)).trans hh)
        · intro D hD
          have := lt_of_heap (hM3.2 D hD).2
          simp
          omega
        · intro D ys W5 hD hys hPu hDD
          have hst5 : pushed d ys st = ks.map (fun k => (k, d + 1)) ++ st := by simp [pushed, hys]
          have hk35 : Kp (So w.heap.size) W3 W5 := ((Kp.refl _ W3).alloc _).trans hPu.kp
          refine hK _ _ m' hlt ⟨_, D :: Ds, ?_, ?_, ?_, hV.stay _ _ _ _ hj hk35, hkS3.own hk35⟩
          · unfold Fr
            repeat apply Exists.intro
            rfl
          · refine ⟨List.nodup_cons.2 ⟨fun hmem => ?_, hPu.mks.1⟩, fun D' hD' => ?_⟩
            · have := lt_of_heap (hM3.2 D hmem).2
              simp at hD
              omega
            · rcases List.mem_cons.1 hD' with rfl | h
              · exact ⟨by simp at hD; omega, hDD⟩
              · exact hPu.mks.2 D' h
          · rw [← hst5]
            obtain ⟨⟨rv5, h1, h2, _⟩, _⟩ := hPu
            exact ⟨rv5, h1, h2⟩

end Go.Proofs.YtcgpokbijaioiaaDoor.F
