/- The set of errors that were seen: a map whose keys are errors of the program's own. -/
import Derived.Test.YtogninhgibbfnaaDoorH
import Derived.LaidEql
namespace Go.Proofs.YtogninhgibbfnaaDoor
open Go.RowKit Go.Shelf
set_option maxRecDepth 100000
attribute [local go_sem] not_any mf_any

/- an error of the program's own: a pointer to its cells -/
def OwnAt (W : World) (x : E) : Prop := ∃ b, (x = (74, .pointer (some ⟨b, 0, none⟩)) ∧ ∃ c, W.heap[b]? = some (.cells c 76 (0, 0))) ∨ (x = (77, .pointer (some ⟨b, 0, none⟩)) ∧ ∃ c, W.heap[b]? = some (.cells c 79 (0, 0)))

theorem info74 : (Tryd.prog.info? 74).map (·.comparable) = some true := by kernel_rfl
theorem info77 : (Tryd.prog.info? 77).map (·.comparable) = some true := by kernel_rfl
theorem info76 : (Tryd.prog.info? 76).map (·.size) = some 3 := by kernel_rfl
theorem info79 : (Tryd.prog.info? 79).map (·.size) = some 2 := by kernel_rfl

theorem eq_own {W : World} {x y : E} (hx : OwnAt W x) (hy : OwnAt W y) : ∃ r : Bool, (Op.equal 36 (ev x) (ev y)).run Tryd.prog W = .ok r W ∧ (r = true ↔ x = y) := by
  obtain ⟨i, hi, hic⟩ := Option.map_eq_some_iff.1 info74
  obtain ⟨j, hj, hjc⟩ := Option.map_eq_some_iff.1 info77
  obtain ⟨k, hk, hks⟩ := Option.map_eq_some_iff.1 info76
  obtain ⟨l, hl, hls⟩ := Option.map_eq_some_iff.1 info79
  have hdiff : ∀ (t u : TypeId) (v w : Value), t ≠ u → (Op.equal 36 (.iface t v) (.iface u w)).run Tryd.prog W = .ok false W := by
    intro t u v w hne
    have h : ∀ d : Nat, (Op.equalIn (d + 1) 36 (.iface t v) (.iface u w)).run Tryd.prog W = .ok false W := fun d => by simp [Op.equalIn, run_underlying Tryd.underlying36, hne]
    simp [Op.equal, Op.maxDepth, h 9999]
  rcases hx with ⟨b, ⟨rfl, c, hb⟩ | ⟨rfl, c, hb⟩⟩ <;> rcases hy with ⟨b', ⟨rfl, c', hb'⟩ | ⟨rfl, c', hb'⟩⟩
  · by_cases e : b = b'
    · subst e
      refine ⟨true, ?_, by simp⟩
      have := run_equalIn_iface_ptr_same W 9998 (⟨b, 0, none⟩ : Addr) Tryd.underlying36 Tryd.underlying74 hi hic hk
      simpa [Op.equal, Op.maxDepth, ev] using this
    · refine ⟨false, ?_, by simp⟩
      have := run_equalIn_iface_ptr_other W 9998 (a := (⟨b, 0, none⟩ : Addr)) (b := (⟨b', 0, none⟩ : Addr)) Tryd.underlying36 Tryd.underlying74 hi hic hk (by omega) (by simp) hb hb'
      simpa [Op.equal, Op.maxDepth, ev] using this
  · exact ⟨false, hdiff _ _ _ _ (by simp), by simp⟩
  · exact ⟨false, hdiff _ _ _ _ (by simp), by simp⟩
  · by_cases e : b = b'
    · subst e
      refine ⟨true, ?_, by simp⟩
      have := run_equalIn_iface_ptr_same W 9998 (⟨b, 0, none⟩ : Addr) Tryd.underlying36 Tryd.underlying77 hj hjc hl
      simpa [Op.equal, Op.maxDepth, ev] using this
    · refine ⟨false, ?_, by simp⟩
      have := run_equalIn_iface_ptr_other W 9998 (a := (⟨b, 0, none⟩ : Addr)) (b := (⟨b', 0, none⟩ : Addr)) Tryd.underlying36 Tryd.underlying77 hj hjc hl (by omega) (by simp) hb hb'
      simpa [Op.equal, Op.maxDepth, ev] using this

/- the set's entries: these keys -/
def Entries (W : World) (es : List MapEntry) (ks : List E) : Prop :=
  es.map (·.key) = ks.map ev ∧ (∀ m ∈ es, m.val = .agg #[]) ∧ ∀ k ∈ ks, OwnAt W k

theorem find_own {W : World} {x : E} (hx : OwnAt W x) : ∀ (es : List MapEntry) (ks : List E) (i : Nat), Entries W es ks →
    ∃ r, (Instr.findAsking 36 (ev x) es i).run Tryd.prog W = .ok r W ∧ ((∃ n, r = some (n, .agg #[])) ↔ x ∈ ks) ∧ (r = none ↔ x ∉ ks)
  | [], [], i, _ => ⟨none, by simp [Instr.findAsking], by simp, by simp⟩
  | [], k :: ks, i, h => by simp [Entries] at h
  | e :: es, [], i, h => by simp [Entries] at h
  | e :: es, k :: ks, i, h => by
    obtain ⟨h1, h2, h3⟩ := h
    simp at h1
    obtain ⟨r, hr, hrk⟩ := eq_own hx (h3 k (by simp))
    cases r with
    | true =>
      have e1 : x = k := hrk.1 rfl
      refine ⟨some (i, e.val), ?_, ?_, ?_⟩
      · simp [Instr.findAsking, h1.1, hr, Result.andThen]
      · simp [h2 e (by simp), e1]
      · simp [e1]
    | false =>
      have e1 : x ≠ k := fun e => by have := hrk.2 e; cases this
      obtain ⟨r, hr2, h4, h5⟩ := find_own hx es ks (i + 1) ⟨h1.2, fun m hm => h2 m (by simp [hm]), fun k' hk' => h3 k' (by simp [hk'])⟩
      refine ⟨r, ?_, ?_, ?_⟩
      · simp [Instr.findAsking, h1.1, hr, Result.andThen, hr2]
      · rw [h4]; simp [e1]
      · rw [h5]; simp [e1]

theorem check_own {W : World} {x : E} (hx : OwnAt W x) (b : Bool) : (Instr.checkKey b 10000 36 (ev x)).run Tryd.prog W = .ok () W := by
  obtain ⟨i, hi, hic⟩ := Option.map_eq_some_iff.1 info74
  obtain ⟨j, hj, hjc⟩ := Option.map_eq_some_iff.1 info77
  have h : ∀ d : Nat, (Instr.checkKey b (d + 2) 36 (ev x)).run Tryd.prog W = .ok () W := by
    intro d
    rcases hx with ⟨b', ⟨rfl, _⟩ | ⟨rfl, _⟩⟩
    · simp [Instr.checkKey, ev, run_underlying Tryd.underlying36, run_underlying Tryd.underlying74, typeInfo, hi, hic]
    · simp [Instr.checkKey, ev, run_underlying Tryd.underlying36, run_underlying Tryd.underlying77, typeInfo, hj, hjc]
  exact h 9998

theorem findKey_own {W : World} {x : E} (hx : OwnAt W x) {es : List MapEntry} {ks : List E} (h : Entries W es ks) :
    ∃ r, (Instr.findKey 36 (ev x) es).run Tryd.prog W = .ok r W ∧ ((∃ n, r = some (n, .agg #[])) ↔ x ∈ ks) ∧ (r = none ↔ x ∉ ks) := by
  obtain ⟨r, hr, h1, h2⟩ := find_own hx es ks 0 h
  refine ⟨r, ?_, h1, h2⟩
  cases es with
  | nil =>
    simp [Instr.findAsking] at hr
    simp [Instr.findKey, run_underlying Tryd.underlying36, Instr.findNow, hr]
  | cons e es =>
    have hs : Instr.sameNow (.interface #[("Error", 73)]) (ev x) e.key = none := by simp [Instr.sameNow]
    simp [Instr.findKey, run_underlying Tryd.underlying36, Instr.findNow, hs, hr]

theorem look_own {W : World} {x : E} (hx : OwnAt W x) {bM clock : Nat} {es : Array MapEntry} {ks : List E} (hm : W.heap[bM]? = some (.map es clock)) (h : Entries W es.toList ks) :
    ∃ ok : Bool, (Instr.lookup 90 (.map (some bM)) (ev x) true).run Tryd.prog W = .ok (.tuple #[.agg #[], .bool ok]) W ∧ (ok = true ↔ x ∈ ks) := by
  obtain ⟨r, hr, h1, h2⟩ := findKey_own hx h
  have hz := Tryd.zeroValue91 W
  cases r with
  | none =>
    refine ⟨false, ?_, by simpa using h2⟩
    simp [Instr.lookup, run_underlying Tryd.underlying90, getObj, Sem.run, hm, check_own hx, hr, hz, Result.andThen]
  | some p =>
    have hin : x ∈ ks := Classical.byContradiction fun hn => by have := h2.2 hn; cases this
    obtain ⟨n, hn⟩ := h1.2 hin
    cases hn
    refine ⟨true, ?_, by simp [hin]⟩
    simp [Instr.lookup, run_underlying Tryd.underlying90, getObj, Sem.run, hm, check_own hx, hr, Result.andThen]

theorem update_own {W : World} {x : E} (hx : OwnAt W x) {bM clock : Nat} {es : Array MapEntry} {ks : List E} (hm : W.heap[bM]? = some (.map es clock)) (h : Entries W es.toList ks) (hn : x ∉ ks) :
    (Instr.mapUpdate 90 (.map (some bM)) (ev x) (.agg #[])).run Tryd.prog W = .ok () (W.putObj bM (.map (es.push { key := ev x, val := .agg #[], born := clock }) (clock + 1))) := by
  obtain ⟨r, hr, h1, h2⟩ := findKey_own hx h
  have hrn := h2.2 hn
  subst hrn
  simp [Instr.mapUpdate, run_underlying Tryd.underlying90, getObj, setObj, Sem.run, hm, check_own hx, hr, Result.andThen, World.putObj]

/- the set in memory: the box bS, the map bM, these keys -/
def Seen (bS bM : Nat) (ks : List E) (W : World) : Prop :=
  W.heap[bS]? = some (.cells #[.map (some bM)] 90 (0, 0)) ∧ ∃ es clock, W.heap[bM]? = some (.map es clock) ∧ Entries W es.toList ks

set_option maxHeartbeats 1000000 in
theorem once_37 (v : Value) (bS : Nat) (W : World) :
    Calls Tryd.prog 51 #[.iface 37 v, .pointer (some ⟨bS, 0, none⟩)] W fun e w' => e = .returned (.int .i64 0) ∧ w' = W := by
  go_enter Tryd.func51, Tryd.ntmps51
  go_wp2_with (go_at_call 41; refine (isOwn_37 _ _).mono ?_; rintro e w' ⟨rfl, rfl⟩)
  go_ret
  exact ⟨rfl, rfl⟩

theorem isOwn_own {W : World} {x : E} (hx : OwnAt W x) (w : World) : Calls Tryd.prog 41 #[ev x] w fun e w' => e = .returned (.bool true) ∧ w' = w := by
  rcases hx with ⟨b, ⟨rfl, _⟩ | ⟨rfl, _⟩⟩
  · exact isOwn_74 _ w
  · exact isOwn_77 _ w

/- the errors of the program's own are as they were -/
def Owns (W W' : World) : Prop := ∀ (b : Nat) (c : Array Value) (t : TypeId), W.heap[b]? = some (.cells c t (0, 0)) → (t = 76 ∨ t = 79) → W'.heap[b]? = some (.cells c t (0, 0))

theorem OwnAt.kept {W W' : World} {x : E} (h : OwnAt W x) (hk : Owns W W') : OwnAt W' x := by
  obtain ⟨b, ⟨h1, c, h2⟩ | ⟨h1, c, h2⟩⟩ := h
  · exact ⟨b, .inl ⟨h1, c, hk _ _ _ h2 (.inl rfl)⟩⟩
  · exact ⟨b, .inr ⟨h1, c, hk _ _ _ h2 (.inr rfl)⟩⟩

theorem Entries.kept {W W' : World} {es : List MapEntry} {ks : List E} (h : Entries W es ks) (hk : Owns W W') : Entries W' es ks :=
  ⟨h.1, h.2.1, fun k hm => (h.2.2 k hm).kept hk⟩

theorem alloc_keeps (W : World) (o : Obj) : Owns W (W.alloc o) :=
  fun _ _ _ h _ => (Below.heap_alloc _ _ _ (lt_of_heap h)).trans h

set_option maxHeartbeats 1000000 in
theorem once_new (x : E) (bS bM : Nat) (ks : List E) (W : World) (hx : OwnAt W x) (hs : Seen bS bM ks W) (hn : x ∉ ks) :
    Calls Tryd.prog 51 #[ev x, .pointer (some ⟨bS, 0, none⟩)] W fun e w' => e = .returned (.int .i64 0) ∧ Seen bS bM (ks ++ [x]) w' ∧ Kp (fun k _ => k = bM) W w' := by
  obtain ⟨hbox, es, clock, hm, hE⟩ := hs
  have hc : W.cell? ⟨bS, 0, none⟩ = some (.map (some bM)) := by simp [World.cell?, hbox]
  obtain ⟨ok, hlook, hok⟩ := look_own hx hm hE
  have hokf : ok = false := by cases ok with | false => rfl | true => exact absurd (hok.1 rfl) hn
  subst hokf
  have hbl := lt_of_heap hbox
  have hml := lt_of_heap hm
  have hup := update_own (W := W.alloc (.cells #[] 91)) (hx.kept (alloc_keeps W _)) ((Below.heap_alloc _ _ _ hml).trans hm) (hE.kept (alloc_keeps W _)) hn
  have HO := hide1 (isOwn_own hx)
  have HX := hide1 (And.intro hx (And.intro hE (And.intro hbox hm)))
  clear hx hok hE hbox hm
  go_enter Tryd.func51, Tryd.ntmps51
  go_wp2_with (go_at_call 41; refine (HO.out _).mono ?_; rintro e w' ⟨rfl, rfl⟩)
  go_ret
  obtain ⟨hx, hE, hbox, hm⟩ := HX.out
  have hne : bS ≠ bM := fun e => by rw [e, hm] at hbox; cases hbox
  have hkk : Owns w' ((w'.alloc (.cells #[] 91)).putObj bM (.map (es.push { key := ev x, val := .agg #[], born := clock }) (clock + 1))) := fun b c t h ht =>
    (World.putObj_heap_other (fun e => by rw [e, hm] at h; cases h)).trans (alloc_keeps w' _ b c t h ht)
  refine ⟨rfl, ⟨?_, _, _, World.putObj_heap_same (Nat.lt_of_lt_of_le hml (by simp)), ?_⟩, ?_⟩
  · exact (World.putObj_heap_other hne).trans ((Below.heap_alloc _ _ _ hbl).trans hbox)
  · obtain ⟨h1, h2, h3⟩ := hE
    refine ⟨by simp [h1], ?_, ?_⟩
    · intro m hm'
      simp at hm'
      rcases hm' with hm' | rfl
      · exact h2 m (by simpa using hm')
      · rfl
    · intro k hk
      rcases List.mem_append.1 hk with hk | hk
      · exact (h3 k hk).kept hkk
      · obtain rfl := List.mem_singleton.1 hk
        exact hx.kept hkk
  · exact ((Kp.refl _ w').alloc _).putObj bM _ (fun _ _ => rfl)

set_option maxHeartbeats 1000000 in
theorem once_again (x : E) (bS bM : Nat) (ks : List E) (W : World) (hx : OwnAt W x) (hs : Seen bS bM ks W) (hn : x ∈ ks) :
    Calls Tryd.prog 51 #[ev x, .pointer (some ⟨bS, 0, none⟩)] W fun e w' => e = .returned (.int .i64 1) ∧ Below W.heap.size W w' := by
  obtain ⟨hbox, es, clock, hm, hE⟩ := hs
  have hc : W.cell? ⟨bS, 0, none⟩ = some (.map (some bM)) := by simp [World.cell?, hbox]
  obtain ⟨ok, hlook, hok⟩ := look_own hx hm hE
  have hokt : ok = true := hok.2 hn
  subst hokt
  have HO := hide1 (isOwn_own hx)
  clear hx hok hE hm hbox
  go_enter Tryd.func51, Tryd.ntmps51
  go_wp2_with (go_at_call 41; refine (HO.out _).mono ?_; rintro e w' ⟨rfl, rfl⟩)
  go_ret
  exact ⟨rfl, (Below.refl _ _).alloc (Nat.le_refl _) _⟩

end Go.Proofs.YtogninhgibbfnaaDoor
