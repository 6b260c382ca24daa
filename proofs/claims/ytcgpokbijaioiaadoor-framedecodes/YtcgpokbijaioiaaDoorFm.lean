/- An error that is wrapped, on the way through it; the set of errors that were seen. -/
import Derived.LaidEql
import Derived.Test.YtcgpokbijaioiaaDoorFw
namespace Go.Proofs.YtcgpokbijaioiaaDoor.F
open Go.RowKit Go.Shelf
set_option maxRecDepth 100000
attribute [local go_sem] ta74_74 ta77_74 ta100_74 ta103_74 not_any mf_any method_unwrap

theorem ta74_77 (v : Value) (w : World) : (Instr.typeAssert (.iface 102 v) 27 74 true).run Tryd.prog w = .ok (.tuple #[.pointer none, .bool false]) w := by kernel_rfl

theorem ta77_77 (v : Value) (w : World) : (Instr.typeAssert (.iface 102 v) 27 102 true).run Tryd.prog w = .ok (.tuple #[v, .bool true]) w := by kernel_rfl

attribute [local go_sem] ta74_77 ta77_77

set_option maxHeartbeats 400000 in
theorem isOwn_77 (v : Value) (w : World) :
    Calls Tryd.prog 37 #[.iface 102 v] w fun e w' => e = .returned (.bool true) ∧ w' = w := by
  go_enter Tryd.func37, Tryd.ntmps37
  go_wp2
  go_ret
  exact ⟨rfl, rfl⟩

def Causes (W : World) (v : Value) (ks : List E) : Prop :=
  Calls Tryd.prog 38 #[v] W (fun e w' => ∃ sv, e = .returned sv ∧ Below W.heap.size W w' ∧ IsKids w' sv ks ∧ ∀ q len c, sv = .slice (some ⟨q, 0, none⟩) len c → W.heap.size ≤ q)

theorem kids_root (W : World) (b : Nat) (c : Int) (s : ByteArray) (h : W.heap[b]? = some (.cells #[.int .i64 c, .string s, .nilIface] 76 (0, 0))) : Causes W (.iface 74 (.pointer (some ⟨b, 0, none⟩))) [] := by
  refine (causes_root b W (fault_cells h).2.2).mono ?_
  rintro e w' ⟨rfl, rfl⟩
  exact ⟨_, rfl, (Below.refl _ _).alloc (Nat.le_refl _) _, .inl ⟨rfl, rfl⟩, fun q len c h => by cases h⟩

theorem kids_wrap (W : World) (b : Nat) (s : ByteArray) (e1 : E) (h : W.heap[b]? = some (.cells #[.int .i64 0, .string s, ev e1] 76 (0, 0))) : Causes W (.iface 74 (.pointer (some ⟨b, 0, none⟩))) [e1] := by
  refine (causes_wrap b e1.1 e1.2 W (fault_cells h).2.2).mono ?_
  rintro e w' ⟨rfl, rfl⟩
  refine ⟨_, rfl, ((Below.refl _ _).alloc (Nat.le_refl _) _).alloc (by simp) _, .inr ⟨W.heap.size + 1, 1, #[ev e1], rfl, ?_, ?_⟩, fun q len c h => by cases h; omega⟩
  · have := World.alloc_heap_new (W.alloc (.cells #[.iface 74 (.pointer (some ⟨b, 0, none⟩))] 27)) (.cells #[.iface e1.1 e1.2] 27)
    rw [World.size_alloc] at this
    exact this
  · intro j e hj
    match j, hj with
    | 0, hj => simp at hj; simp [hj]
    | j + 1, hj => simp at hj

theorem low_kept {nE : Nat} {S : Nat → Obj → Prop} {W W' : World} (h : Kp S W W') (hS : ∀ k o, S k o → nE ≤ k) : ∀ b o, b < nE → W.heap[b]? = some o → W'.heap[b]? = some o :=
  fun b o hb ho => h.same b o ho (fun hs => by have := hS b o hs; omega)

theorem So_keep {n1 : Nat} {W W' : World} (hk : Kp (So n1) W W') (k : Nat) (c : Array Value) (t : TypeId) (h1 : t ≠ 85) (h2 : t ≠ 86) (hh : W.heap[k]? = some (.cells c t (0, 0))) : W'.heap[k]? = some (.cells c t (0, 0)) :=
  hk.same k _ hh (fun hs => by
    rcases hs.2 with ⟨_, _, e⟩ | ⟨_, _, e⟩ | e
    · cases e; exact h1 rfl
    · cases e; exact h2 rfl
    · cases e)

attribute [-go_sem] ta74_74 ta77_74 ta100_74 ta103_74 method_unwrap ta74_77 ta77_77

set_option maxHeartbeats 400000 in
theorem number_no (x : E) (w : World) :
    Calls Tryd.prog 25 #[ev x, .bool false] w fun e w' => e = .returned (.tuple #[.int .i64 0, .bool false]) ∧ Below w.heap.size w w' := by
  go_enter Tryd.func25, Tryd.ntmps25
  go_wp2
  go_ret2
  refine ⟨rfl, ?_⟩
  repeat (first | exact Below.refl _ _ | refine Below.alloc ?_ (by simp; try omega) _ | refine Below.setCell ?_ (by simp; try omega) _ | refine Below.drew ?_)

def OwnAt (W : World) (x : E) : Prop := ∃ b, (x = (74, .pointer (some ⟨b, 0, none⟩)) ∧ ∃ c, W.heap[b]? = some (.cells c 76 (0, 0))) ∨ (x = (102, .pointer (some ⟨b, 0, none⟩)) ∧ ∃ c, W.heap[b]? = some (.cells c 155 (0, 0)))

theorem info74 : (Tryd.prog.info? 74).map (·.comparable) = some true := by kernel_rfl

theorem info77 : (Tryd.prog.info? 102).map (·.comparable) = some true := by kernel_rfl

theorem info76 : (Tryd.prog.info? 76).map (·.size) = some 3 := by kernel_rfl

theorem info79 : (Tryd.prog.info? 155).map (·.size) = some 2 := by kernel_rfl

theorem eq_own {W : World} {x y : E} (hx : OwnAt W x) (hy : OwnAt W y) : ∃ r : Bool, (Op.equal 27 (ev x) (ev y)).run Tryd.prog W = .ok r W ∧ (r = true ↔ x = y) := by
  obtain ⟨i, hi, hic⟩ := Option.map_eq_some_iff.1 info74
  obtain ⟨j, hj, hjc⟩ := Option.map_eq_some_iff.1 info77
  obtain ⟨k, hk, hks⟩ := Option.map_eq_some_iff.1 info76
  obtain ⟨l, hl, hls⟩ := Option.map_eq_some_iff.1 info79
  have hdiff : ∀ (t u : TypeId) (v w : Value), t ≠ u → (Op.equal 27 (.iface t v) (.iface u w)).run Tryd.prog W = .ok false W := by
    intro t u v w hne
    have h : ∀ d : Nat, (Op.equalIn (d + 1) 27 (.iface t v) (.iface u w)).run Tryd.prog W = .ok false W := fun d => by simp [Op.equalIn, run_underlying Tryd.underlying27, hne]
    simp [Op.equal, Op.maxDepth, h 9999]
  rcases hx with ⟨b, ⟨rfl, c, hb⟩ | ⟨rfl, c, hb⟩⟩ <;> rcases hy with ⟨b', ⟨rfl, c', hb'⟩ | ⟨rfl, c', hb'⟩⟩
  · by_cases e : b = b'
    · subst e
      refine ⟨true, ?_, by simp⟩
      have := run_equalIn_iface_ptr_same W 9998 (⟨b, 0, none⟩ : Addr) Tryd.underlying27 Tryd.underlying74 hi hic hk
      simpa [Op.equal, Op.maxDepth, ev] using this
    · refine ⟨false, ?_, by simp⟩
      have := run_equalIn_iface_ptr_other W 9998 (a := (⟨b, 0, none⟩ : Addr)) (b := (⟨b', 0, none⟩ : Addr)) Tryd.underlying27 Tryd.underlying74 hi hic hk (by omega) (by simp) hb hb'
      simpa [Op.equal, Op.maxDepth, ev] using this
  · exact ⟨false, hdiff _ _ _ _ (by simp), by simp⟩
  · exact ⟨false, hdiff _ _ _ _ (by simp), by simp⟩
  · by_cases e : b = b'
    · subst e
      refine ⟨true, ?_, by simp⟩
      have := run_equalIn_iface_ptr_same W 9998 (⟨b, 0, none⟩ : Addr) Tryd.underlying27 Tryd.underlying102 hj hjc hl
      simpa [Op.equal, Op.maxDepth, ev] using this
    · refine ⟨false, ?_, by simp⟩
      have := run_equalIn_iface_ptr_other W 9998 (a := (⟨b, 0, none⟩ : Addr)) (b := (⟨b', 0, none⟩ : Addr)) Tryd.underlying27 Tryd.underlying102 hj hjc hl (by omega) (by simp) hb hb'
      simpa [Op.equal, Op.maxDepth, ev] using this

def Entries (W : World) (es : List MapEntry) (ks : List E) : Prop :=
  es.map (·.key) = ks.map ev ∧ (∀ m ∈ es, m.val = .agg #[]) ∧ ∀ k ∈ ks, OwnAt W k

theorem find_own {W : World} {x : E} (hx : OwnAt W x) : ∀ (es : List MapEntry) (ks : List E) (i : Nat), Entries W es ks →
    ∃ r, (Instr.findAsking 27 (ev x) es i).run Tryd.prog W = .ok r W ∧ ((∃ n, r = some (n, .agg #[])) ↔ x ∈ ks) ∧ (r = none ↔ x ∉ ks)
  | [], [], i, _ => ⟨none, by simp [Instr.findAsking], by simp, by simp⟩
  | [], k :: ks, i, h => by simp [Entries] at h
  | e :: es, [], i, h => by simp [Entries] at h
  | e :: es, k :: ks, i, h => by
    obtain ⟨h1, h2, h3⟩ := h
    simp at h1
    obtain ⟨r, hr, hrk⟩ := eq_own hx (h3 k (by simp))
    cases r with
    | true =>
      have e1 : x = k := hrk.1 rfl
      refine ⟨some (i, e.val), ?_, ?_, ?_⟩
      · simp [Instr.findAsking, h1.1, hr, Result.andThen]
      · simp [h2 e (by simp), e1]
      · simp [e1]
    | false =>
      have e1 : x ≠ k := fun e => by have := hrk.2 e; cases this
      obtain ⟨r, hr2, h4, h5⟩ := find_own hx es ks (i + 1) ⟨h1.2, fun m hm => h2 m (by simp [hm]), fun k' hk' => h3 k' (by simp [hk'])⟩
      refine ⟨r, ?_, ?_, ?_⟩
      · simp [Instr.findAsking, h1.1, hr, Result.andThen, hr2]
      · rw [h4]; simp [e1]
      · rw [h5]; simp [e1]

theorem check_own {W : World} {x : E} (hx : OwnAt W x) (b : Bool) : (Instr.checkKey b 10000 27 (ev x)).run Tryd.prog W = .ok () W := by
  obtain ⟨i, hi, hic⟩ := Option.map_eq_some_iff.1 info74
  obtain ⟨j, hj, hjc⟩ := Option.map_eq_some_iff.1 info77
  have h : ∀ d : Nat, (Instr.checkKey b (d + 2) 27 (ev x)).run Tryd.prog W = .ok () W := by
    intro d
    rcases hx with ⟨b', ⟨rfl, _⟩ | ⟨rfl, _⟩⟩
    · simp [Instr.checkKey, ev, run_underlying Tryd.underlying27, run_underlying Tryd.underlying74, typeInfo, hi, hic]
    · simp [Instr.checkKey, ev, run_underlying Tryd.underlying27, run_underlying Tryd.underlying102, typeInfo, hj, hjc]
  exact h 9998

theorem findKey_own {W : World} {x : E} (hx : OwnAt W x) {es : List MapEntry} {ks : List E} (h : Entries W es ks) :
    ∃ r, (Instr.findKey 27 (ev x) es).run Tryd.prog W = .ok r W ∧ ((∃ n, r = some (n, .agg #[])) ↔ x ∈ ks) ∧ (r = none ↔ x ∉ ks) := by
  obtain ⟨r, hr, h1, h2⟩ := find_own hx es ks 0 h
  refine ⟨r, ?_, h1, h2⟩
  cases es with
  | nil =>
    simp [Instr.findAsking] at hr
    simp [Instr.findKey, run_underlying Tryd.underlying27, Instr.findNow, hr]
  | cons e es =>
    have hs : Instr.sameNow (.interface #[("Error", 52)]) (ev x) e.key = none := by simp [Instr.sameNow]
    simp [Instr.findKey, run_underlying Tryd.underlying27, Instr.findNow, hs, hr]

theorem look_own {W : World} {x : E} (hx : OwnAt W x) {bM clock : Nat} {es : Array MapEntry} {ks : List E} (hm : W.heap[bM]? = some (.map es clock)) (h : Entries W es.toList ks) :
    ∃ ok : Bool, (Instr.lookup 81 (.map (some bM)) (ev x) true).run Tryd.prog W = .ok (.tuple #[.agg #[], .bool ok]) W ∧ (ok = true ↔ x ∈ ks) := by
  obtain ⟨r, hr, h1, h2⟩ := findKey_own hx h
  have hz := Tryd.zeroValue82 W
  cases r with
  | none =>
    refine ⟨false, ?_, by simpa using h2⟩
    simp [Instr.lookup, run_underlying Tryd.underlying81, getObj, Sem.run, hm, check_own hx, hr, hz, Result.andThen]
  | some p =>
    have hin : x ∈ ks := Classical.byContradiction fun hn => by have := h2.2 hn; cases this
    obtain ⟨n, hn⟩ := h1.2 hin
    cases hn
    refine ⟨true, ?_, by simp [hin]⟩
    simp [Instr.lookup, run_underlying Tryd.underlying81, getObj, Sem.run, hm, check_own hx, hr, Result.andThen]

theorem update_own {W : World} {x : E} (hx : OwnAt W x) {bM clock : Nat} {es : Array MapEntry} {ks : List E} (hm : W.heap[bM]? = some (.map es clock)) (h : Entries W es.toList ks) (hn : x ∉ ks) :
    (Instr.mapUpdate 81 (.map (some bM)) (ev x) (.agg #[])).run Tryd.prog W = .ok () (W.putObj bM (.map (es.push { key := ev x, val := .agg #[], born := clock }) (clock + 1))) := by
  obtain ⟨r, hr, h1, h2⟩ := findKey_own hx h
  have hrn := h2.2 hn
  subst hrn
  simp [Instr.mapUpdate, run_underlying Tryd.underlying81, getObj, setObj, Sem.run, hm, check_own hx, hr, Result.andThen, World.putObj]

def Seen (bS bM : Nat) (ks : List E) (W : World) : Prop :=
  W.heap[bS]? = some (.cells #[.map (some bM)] 81 (0, 0)) ∧ ∃ es clock, W.heap[bM]? = some (.map es clock) ∧ Entries W es.toList ks

theorem isOwn_own {W : World} {x : E} (hx : OwnAt W x) (w : World) : Calls Tryd.prog 37 #[ev x] w fun e w' => e = .returned (.bool true) ∧ w' = w := by
  rcases hx with ⟨b, ⟨rfl, _⟩ | ⟨rfl, _⟩⟩
  · exact isOwn_74 _ w
  · exact isOwn_77 _ w

def Owns (W W' : World) : Prop := ∀ (b : Nat) (c : Array Value) (t : TypeId), W.heap[b]? = some (.cells c t (0, 0)) → (t = 76 ∨ t = 155) → W'.heap[b]? = some (.cells c t (0, 0))

theorem OwnAt.kept {W W' : World} {x : E} (h : OwnAt W x) (hk : Owns W W') : OwnAt W' x := by
  obtain ⟨b, ⟨h1, c, h2⟩ | ⟨h1, c, h2⟩⟩ := h
  · exact ⟨b, .inl ⟨h1, c, hk _ _ _ h2 (.inl rfl)⟩⟩
  · exact ⟨b, .inr ⟨h1, c, hk _ _ _ h2 (.inr rfl)⟩⟩

theorem Entries.kept {W W' : World} {es : List MapEntry} {ks : List E} (h : Entries W es ks) (hk : Owns W W') : Entries W' es ks :=
  ⟨h.1, h.2.1, fun k hm => (h.2.2 k hm).kept hk⟩

theorem alloc_keeps (W : World) (o : Obj) : Owns W (W.alloc o) :=
  fun _ _ _ h _ => (Below.heap_alloc _ _ _ (lt_of_heap h)).trans h

set_option maxHeartbeats 1000000 in
theorem once_new (x : E) (bS bM : Nat) (ks : List E) (W : World) (hx : OwnAt W x) (hs : Seen bS bM ks W) (hn : x ∉ ks) :
    Calls Tryd.prog 36 #[ev x, .pointer (some ⟨bS, 0, none⟩)] W fun e w' => e = .returned (.int .i64 0) ∧ Seen bS bM (ks ++ [x]) w' ∧ Kp (fun k _ => k = bM) W w' := by
  obtain ⟨hbox, es, clock, hm, hE⟩ := hs
  have hc : W.cell? ⟨bS, 0, none⟩ = some (.map (some bM)) := by simp [World.cell?, hbox]
  obtain ⟨ok, hlook, hok⟩ := look_own hx hm hE
  have hokf : ok = false := by cases ok with | false => rfl | true => exact absurd (hok.1 rfl) hn
  subst hokf
  have hbl := lt_of_heap hbox
  have hml := lt_of_heap hm
  have hup := update_own (W := W.alloc (.cells #[] 82)) (hx.kept (alloc_keeps W _)) ((Below.heap_alloc _ _ _ hml).trans hm) (hE.kept (alloc_keeps W _)) hn
  have HO := hide1 (isOwn_own hx)
  have HX := hide1 (And.intro hx (And.intro hE (And.intro hbox hm)))
  clear hx hok hE hbox hm
  go_enter Tryd.func36, Tryd.ntmps36
  go_wp2_with (go_at_call 37; refine (HO.out _).mono ?_; rintro e w' ⟨rfl, rfl⟩)
  go_ret
  obtain ⟨hx, hE, hbox, hm⟩ := HX.out
  have hne : bS ≠ bM := fun e => by rw [e, hm] at hbox; cases hbox
  have hkk : Owns w' ((w'.alloc (.cells #[] 82)).putObj bM (.map (es.push { key := ev x, val := .agg #[], born := clock }) (clock + 1))) := fun b c t h ht =>
    (World.putObj_heap_other (fun e => by rw [e, hm] at h; cases h)).trans (alloc_keeps w' _ b c t h ht)
  refine ⟨rfl, ⟨?_, _, _, World.putObj_heap_same (Nat.lt_of_lt_of_le hml (by simp)), ?_⟩, ?_⟩
  · exact (World.putObj_heap_other hne).trans ((Below.heap_alloc _ _ _ hbl).trans hbox)
  · obtain ⟨h1, h2, h3⟩ := hE
    refine ⟨by simp [h1], ?_, ?_⟩
    · intro m hm'
      simp at hm'
      rcases hm' with hm' | rfl
      · exact h2 m (by simpa using hm')
      · rfl
    · intro k hk
      rcases List.mem_append.1 hk with hk | hk
      · exact (h3 k hk).kept hkk
      · obtain rfl := List.mem_singleton.1 hk
        exact hx.kept hkk
  · exact ((Kp.refl _ w').alloc _).putObj bM _ (fun _ _ => rfl)

theorem Below.owns {W W' : World} (h : Below W.heap.size W W') : Owns W W' := fun b _ _ hb _ => (h.block b (lt_of_heap hb)).trans hb

theorem Seen.below {bS bM : Nat} {ks : List E} {W W' : World} (h : Seen bS bM ks W) (hB : Below W.heap.size W W') : Seen bS bM ks W' := by
  obtain ⟨h1, es, clock, h2, h3⟩ := h
  exact ⟨(hB.block _ (lt_of_heap h1)).trans h1, es, clock, (hB.block _ (lt_of_heap h2)).trans h2, h3.kept (Below.owns hB)⟩

set_option maxHeartbeats 1000000 in
theorem codeV_in (x : E) (p : Value) (bO bS bM : Nat) (ks : List E) (W : World) (hO : W.heap[bO]? = some (.cells #[.func (.func 36) #[] #[.pointer (some ⟨bS, 0, none⟩)]] 58 (0, 0)))
    (hh : ∀ W1, Below W.heap.size W W1 → Calls Tryd.prog 26 #[ev x] W1 fun e w' => e = .returned (.bool false) ∧ w' = W1) (hx : OwnAt W x) (hs : Seen bS bM ks W) (hn : x ∉ ks) :
    Calls Tryd.prog 24 #[ev x, .bool false, p, .pointer (some ⟨bO, 0, none⟩)] W fun e w' => e = .returned (.int .i64 0) ∧ Seen bS bM (ks ++ [x]) w' ∧ Kp (fun k _ => k = bM) W w' := by
  have H := hide1 (And.intro hh (And.intro hx (And.intro hs hn)))
  clear hh hx hs hn
  go_enter Tryd.func24, Tryd.ntmps24
  go_wp2_with fail
  refine (number_no x W).mono ?_
  rintro e w1 ⟨rfl, hB⟩
  have hO1 := (hB.block _ (lt_of_heap hO)).trans hO
  have hc1 : w1.cell? ⟨bO, 0, none⟩ = some (.func (.func 36) #[] #[.pointer (some ⟨bS, 0, none⟩)]) := by simp [World.cell?, hO1]
  go_wp2_with fail
  obtain ⟨hh, hx, hs, hn⟩ := H.out
  refine (hh w1 hB).mono ?_
  rintro e w2 ⟨rfl, rfl⟩
  go_wp2_with fail
  refine (once_new x bS bM ks w2 (hx.kept (Below.owns hB)) (hs.below hB) hn).mono ?_
  rintro e w3 ⟨rfl, hs3, hk3⟩
  go_wp2
  go_ret
  exact ⟨rfl, hs3, (Kp.ofBelow hB).trans hk3⟩

end Go.Proofs.YtcgpokbijaioiaaDoor.F
