/- Regions that draw their order: what is held need not be held behind the last stores, where these wait for what is taken first. -/
import Derived.Test.YtgcbdjmlhjbacaaJ00
import Derived.Deep.RegionHeld3
import Derived.Laws.CopyOwn
import Derived.Deep.Cut
import Derived.Deep.CutBlock
import Derived.Deep.DeepCutAuto
namespace Go.Proofs.Ytgcbdjmlhjbacaa.St
open Go.RowKit

/- as wpAnyH, but behind an operation of F nothing of S is asked -/
def wpAnyF (P : Program) (md : Region.Mode) (ops : Array Oper) (Q : Exit → Act → World → Prop) (S : World → Prop) (F : List Nat) : Nat → Array Bool → Act → World → Prop
  | 0, listed, a, w => Region.ready md ops listed = [] ∧ Q .normal a w
  | fuel + 1, listed, a, w =>
    (Region.ready md ops listed = [] → Q .normal a w) ∧
    ∀ i ∈ Region.ready md ops listed, wpOp P ops Q i (fun a' w' => (i ∉ F → S w → S w') ∧ wpAnyF P md ops Q S F fuel (listed.setIfInBounds i true) a' w') a w

theorem wpAny_of_f {P : Program} {ops : Array Oper} {Q : Exit → Act → World → Prop} {md : Region.Mode} {S : World → Prop} {F : List Nat} : ∀ (fuel : Nat) (listed : Array Bool) (a : Act) (w : World), wpAnyF P md ops Q S F fuel listed a w → wpAny P md ops Q fuel listed a w
  | 0, _, _, _, h => h
  | fuel + 1, _, _, _, h => ⟨h.1, fun i hi => wpOp_mono (fun a' w' h' => wpAny_of_f fuel _ a' w' h'.2) (h.2 i hi)⟩

/- each of cs waits for i, or for another of cs -/
def waits (md : Region.Mode) (ops : Array Oper) (i : Nat) (cs : List Nat) : Bool :=
  cs.all fun c => match ops[c]? with
    | some o => o.after.any fun e => Region.binds md e && (e.on == i || cs.contains e.on)
    | none => false

theorem waits_spec {ops : Array Oper} {md : Region.Mode} {i : Nat} {cs : List Nat} (h : waits md ops i cs = true) {listed : Array Bool} (hi : listed.getD i true = false) (hc : ∀ c ∈ cs, listed.getD c true = false) {j : Nat} (hj : j ∈ Region.ready md ops listed) : j ∉ cs := by
  intro hjc
  have h1 := List.all_eq_true.1 h j hjc
  obtain ⟨_, oj, hoj, hall⟩ := mem_ready.1 hj
  rw [hoj] at h1
  obtain ⟨k, hk, h2⟩ := Array.any_eq_true.1 h1
  simp only [Bool.and_eq_true, Bool.or_eq_true, beq_iff_eq, List.contains_iff_mem] at h2
  have h3 := hall _ (Array.getElem_mem hk) h2.1
  have h4 : listed.getD (oj.after[k]).on true = false := by
    rcases h2.2 with h5 | h5
    · rw [h5]; exact hi
    · exact hc _ h5
  rcases Nat.lt_or_ge (oj.after[k]).on listed.size with h' | h'
  · simp [h'] at h3 h4
    rw [h3] at h4
    cases h4
  · simp [Array.getElem?_eq_none h'] at h3

/- an operation i may be taken first, if R (what its value hangs on) outlives whatever else may come up, as long as J holds of what has come up -/
theorem front {P : Program} {ops : Array Oper} {Q : Exit → Act → World → Prop} {md : Region.Mode} {S : World → Prop} {F : List Nat} {i : Nat} {oi : Oper} {v : Value} {R : World → Prop} {J : Array Bool → Prop} (hi : ops[i]? = some oi) (hsel : ∀ (j : Nat) (o : Oper) cs b, ops[j]? = some o → o.op ≠ .select cs b)
    (hQ : ∀ c a w, Q (.panic c) (a.put oi.dst v) w → Q (.panic c) a w)
    (hJ : ∀ listed j, J listed → i ∈ Region.ready md ops listed → j ∈ Region.ready md ops listed → j ≠ i → J (listed.setIfInBounds j true) ∧ (∃ oj, ops[j]? = some oj ∧ oi.apart ops oj = true) ∧ ∀ w w', (j ∉ F → S w → S w') → R w → R w') :
    ∀ (fuel : Nat) (listed : Array Bool) (a : Act) (w : World), J listed → i ∈ Region.ready md ops listed → YieldsIf P ops R oi v a → R w →
      wpAnyF P md ops Q S F fuel (listed.setIfInBounds i true) (a.put oi.dst v) w → wpAnyF P md ops Q S F (fuel + 1) listed a w
  | fuel, listed, a, w, hl, hr, hy, hR, H => by
    refine ⟨fun h0 => absurd hr (by rw [h0]; exact List.not_mem_nil), fun j hj => ?_⟩
    rcases Nat.decEq j i with hne | heq
    · obtain ⟨hl', ⟨oj, hoj, hap⟩, hkeep⟩ := hJ listed j hl hr hj hne
      have hj' : j ∈ Region.ready md ops (listed.setIfInBounds i true) := ready_mono hj hne
      match fuel, H with
      | 0, H => exact absurd hj' (by rw [H.1]; exact List.not_mem_nil)
      | fuel + 1, H =>
        have step := wpOp_putIf hoj hap (fun cs b => hsel i oi cs b hi) (fun cs b => hsel j oj cs b hoj) hQ hy (H.2 j hj')
        exact wpOp_mono (fun a' w' hs => ⟨hs.2.1, front hi hsel hQ hJ fuel _ a' w' hl' (ready_mono hr (Ne.symm hne)) hs.1 (hkeep w w' hs.2.1 hR) (by
          rw [Array.setIfInBounds_comm _ _ hne]
          exact hs.2.2)⟩) step
    · subst heq
      exact hy.wpOp hi hR ⟨fun _ h => h, H⟩

/- what has not come up and does not wait for i is apart from it -/
def Clear (md : Region.Mode) (ops : Array Oper) (i : Nat) (oi : Oper) (listed : Array Bool) : Prop :=
  ∀ j oj, ops[j]? = some oj → j ≠ i → listed.getD j true = false → (∀ e ∈ oj.after, Region.binds md e = true → e.on ≠ i) → oi.apart ops oj = true

theorem Clear.next {md : Region.Mode} {ops : Array Oper} {i : Nat} {oi : Oper} {listed : Array Bool} (h : Clear md ops i oi listed) (hr : i ∈ Region.ready md ops listed) {j : Nat} (hj : j ∈ Region.ready md ops listed) (hne : j ≠ i) :
    Clear md ops i oi (listed.setIfInBounds j true) ∧ ∃ oj, ops[j]? = some oj ∧ oi.apart ops oj = true := by
  obtain ⟨hun, oj, hoj, hall⟩ := mem_ready.1 hj
  refine ⟨fun k ok hk hki hku hno => h k ok hk hki ?_ hno, oj, hoj, h j oj hoj hne hun fun e he hb heq => ?_⟩
  · by_cases hjk : j = k
    · rw [← hjk]; exact hun
    · rw [getD_set_ne true hjk] at hku; exact hku
  · have up := hall e he hb
    have down := (mem_ready.1 hr).1
    rw [heq] at up
    by_cases hsz : i < listed.size
    · simp [hsz] at up down
      rw [down] at up
      cases up
    · simp [Array.getElem?_eq_none (Nat.le_of_not_lt hsz)] at up

def unlisted (listed : Array Bool) (cs : List Nat) : Bool := cs.all fun c => listed.getD c true == false

/- an operation that may come first, its slot named; cs: what waits for it, F among them -/
theorem take_f {P : Program} {ops : Array Oper} {Q : Exit → Act → World → Prop} {md : Region.Mode} {S : World → Prop} {F : List Nat} (i d : Nat) (v : Value) (cs : List Nat) {oi : Oper} {fuel : Nat} {listed : Array Bool} {tmps : Array Value} {ds : List Deferred} {w : World} (hi : ops[i]? = some oi) (hd : oi.dst = some d)
    (hs : Region.noSelect ops = true) (hf : Region.free md ops listed i = true) (hr : (Region.ready md ops listed).contains i = true) (hcs : waits md ops i cs = true) (hF : F.all (cs.contains ·) = true) (hu : unlisted listed cs = true)
    (hQ : ∀ c a w, Q (.panic c) (a.put oi.dst v) w → Q (.panic c) a w) (hw : Region.wanted oi (yielded ops tmps) = true) (hy : ∀ w, S w → (execOp (Act.eval ⟨tmps, ds⟩) oi).run P w = .ok (.value v) w) (hS : S w)
    (h : wpAnyF P md ops Q S F fuel (listed.setIfInBounds i true) ⟨tmps.setIfInBounds d v, ds⟩ w) : wpAnyF P md ops Q S F (fuel + 1) listed ⟨tmps, ds⟩ w :=
  front (R := S) (J := fun L => Clear md ops i oi L ∧ ∀ c ∈ cs, L.getD c true = false) hi (Region.noSelect_spec hs) hQ
    (fun L j hL hri hrj hne => by
      obtain ⟨h1, h2⟩ := hL.1.next hri hrj hne
      have hjc : j ∉ cs := waits_spec hcs (mem_ready.1 hri).1 hL.2 hrj
      refine ⟨⟨h1, fun c hc => ?_⟩, h2, fun _ _ hk hw => hk (fun hf => hjc (by simpa using List.all_eq_true.1 hF j hf)) hw⟩
      have hjk : j ≠ c := fun hjk => hjc (by rw [hjk]; exact hc)
      rw [getD_set_ne true hjk]
      exact hL.2 c hc)
    fuel listed _ w ⟨Region.free_spec hi hf, fun c hc => by simpa using List.all_eq_true.1 hu c hc⟩ (by simpa using hr) (Or.inl ⟨hw, hy⟩) hS (by rw [hd]; exact h)

/- an operation whose value hangs on no world may come first, whatever F is -/
theorem take_p {P : Program} {ops : Array Oper} {Q : Exit → Act → World → Prop} {md : Region.Mode} {S : World → Prop} {F : List Nat} (i d : Nat) (v : Value) {oi : Oper} {fuel : Nat} {listed : Array Bool} {tmps : Array Value} {ds : List Deferred} {w : World} (hi : ops[i]? = some oi) (hd : oi.dst = some d)
    (hs : Region.noSelect ops = true) (hf : Region.free md ops listed i = true) (hr : (Region.ready md ops listed).contains i = true)
    (hQ : ∀ c a w, Q (.panic c) (a.put oi.dst v) w → Q (.panic c) a w) (hw : Region.wanted oi (yielded ops tmps) = true) (hy : ∀ w, (execOp (Act.eval ⟨tmps, ds⟩) oi).run P w = .ok (.value v) w)
    (h : wpAnyF P md ops Q S F fuel (listed.setIfInBounds i true) ⟨tmps.setIfInBounds d v, ds⟩ w) : wpAnyF P md ops Q S F (fuel + 1) listed ⟨tmps, ds⟩ w :=
  front (R := fun _ => True) (J := Clear md ops i oi) hi (Region.noSelect_spec hs) hQ
    (fun L j hL hri hrj hne => ⟨(hL.next hri hrj hne).1, (hL.next hri hrj hne).2, fun _ _ _ _ => trivial⟩)
    fuel listed _ w (Region.free_spec hi hf) (by simpa using hr) (Or.inl ⟨hw, fun w _ => hy w⟩) trivial (by rw [hd]; exact h)

/- one alone may come up -/
theorem ready_f {P : Program} {ops : Array Oper} {Q : Exit → Act → World → Prop} {md : Region.Mode} {S : World → Prop} {F : List Nat} (i : Nat) {o : Oper} {fuel : Nat} {listed : Array Bool} {a : Act} {w : World} (hr : Region.ready md ops listed = [i]) (ho : ops[i]? = some o)
    (h : ∀ K : Act → World → Prop, Shut (∀ a' w', (i ∉ F → S w → S w') → wpAnyF P md ops Q S F fuel (listed.setIfInBounds i true) a' w' → K a' w') → if Region.wanted o (yielded ops a.tmps) = true then Oper.wp P o a w K Q else K (a.put o.dst undef) w) :
    wpAnyF P md ops Q S F (fuel + 1) listed a w := by
  refine ⟨fun h0 => (by rw [hr] at h0; cases h0), ?_⟩
  intro j hj
  rw [hr] at hj
  have hji : j = i := by simpa using hj
  rw [hji]
  exact wpOp_step ho (fun K hK => h K (fun a w hS hW => hK a w ⟨hS, hW⟩))

theorem ready2_f {P : Program} {ops : Array Oper} {Q : Exit → Act → World → Prop} {md : Region.Mode} {S : World → Prop} {F : List Nat} (i j : Nat) {o o' : Oper} {fuel : Nat} {listed : Array Bool} {a : Act} {w : World} (hr : Region.ready md ops listed = [i, j]) (ho : ops[i]? = some o) (ho' : ops[j]? = some o')
    (h : ∀ K : Act → World → Prop, Shut (∀ a' w', (i ∉ F → S w → S w') → wpAnyF P md ops Q S F fuel (listed.setIfInBounds i true) a' w' → K a' w') → if Region.wanted o (yielded ops a.tmps) = true then Oper.wp P o a w K Q else K (a.put o.dst undef) w)
    (h' : ∀ K : Act → World → Prop, Shut (∀ a' w', (j ∉ F → S w → S w') → wpAnyF P md ops Q S F fuel (listed.setIfInBounds j true) a' w' → K a' w') → if Region.wanted o' (yielded ops a.tmps) = true then Oper.wp P o' a w K Q else K (a.put o'.dst undef) w) :
    wpAnyF P md ops Q S F (fuel + 1) listed a w := by
  refine ⟨fun h0 => (by rw [hr] at h0; cases h0), ?_⟩
  intro k hk
  rw [hr] at hk
  rcases List.mem_cons.1 hk with e | hk
  · rw [e]
    exact wpOp_step ho (fun K hK => h K (fun a w hS hW => hK a w ⟨hS, hW⟩))
  · have e : k = j := by simpa using hk
    rw [e]
    exact wpOp_step ho' (fun K hK => h' K (fun a w hS hW => hK a w ⟨hS, hW⟩))

theorem done_f {P : Program} {ops : Array Oper} {Q : Exit → Act → World → Prop} {md : Region.Mode} {S : World → Prop} {F : List Nat} {listed : Array Bool} {a : Act} {w : World} (hr : Region.ready md ops listed = []) (h : Q .normal a w) :
    ∀ fuel, wpAnyF P md ops Q S F fuel listed a w
  | 0 => ⟨hr, h⟩
  | _ + 1 => ⟨fun _ => h, by rw [hr]; simp⟩

theorem region_f {P : Program} {ops : Array Oper} {Q : Exit → Act → World → Prop} {S : World → Prop} {F : List Nat} {id : Nat} {a : Act} {w : World} (hm : P.follows .mixedOrders = true) (hS : S w.drew)
    (h : S w.drew → wpAnyF P .any ops Q S F ops.size (Array.replicate ops.size false) a w.drew) : (Code.region id ops true).wp P Q a w :=
  wp_region_any hm (wpAny_of_f _ _ _ _ (h hS))

theorem skip_p {P : Program} {ops : Array Oper} {Q : Exit → Act → World → Prop} {md : Region.Mode} {S : World → Prop} {F : List Nat} (i d : Nat) {oi : Oper} {fuel : Nat} {listed : Array Bool} {tmps : Array Value} {ds : List Deferred} {w : World} (hi : ops[i]? = some oi) (hd : oi.dst = some d)
    (hs : Region.noSelect ops = true) (hf : Region.free md ops listed i = true) (hr : (Region.ready md ops listed).contains i = true)
    (hQ : ∀ c a w, Q (.panic c) (a.put oi.dst undef) w → Q (.panic c) a w) (hw : Region.wanted oi (yielded ops tmps) = false)
    (h : wpAnyF P md ops Q S F fuel (listed.setIfInBounds i true) ⟨tmps.setIfInBounds d undef, ds⟩ w) : wpAnyF P md ops Q S F (fuel + 1) listed ⟨tmps, ds⟩ w :=
  front (R := fun _ => True) (J := Clear md ops i oi) hi (Region.noSelect_spec hs) hQ
    (fun L j hL hri hrj hne => ⟨(hL.next hri hrj hne).1, (hL.next hri hrj hne).2, fun _ _ _ _ => trivial⟩)
    fuel listed _ w (Region.free_spec hi hf) (by simpa using hr) (Or.inr ⟨hw, rfl⟩) trivial (by rw [hd]; exact h)

/- nothing was held: from here on something is -/
theorem hold_f {P : Program} {ops : Array Oper} {Q : Exit → Act → World → Prop} {md : Region.Mode} {S : World → Prop} {F G : List Nat} : ∀ (fuel : Nat) (listed : Array Bool) (a : Act) (w : World), wpAnyF P md ops Q S F fuel listed a w → wpAnyF P md ops Q (fun _ => True) G fuel listed a w
  | 0, _, _, _, h => h
  | fuel + 1, _, _, _, h => ⟨h.1, fun i hi => wpOp_mono (fun a' w' h' => ⟨fun _ _ => trivial, hold_f fuel _ a' w' h'.2⟩) (h.2 i hi)⟩

end Go.Proofs.Ytgcbdjmlhjbacaa.St
