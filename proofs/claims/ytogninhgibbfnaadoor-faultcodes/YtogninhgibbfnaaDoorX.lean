/- Text, of every error in memory. -/
import Derived.Test.YtogninhgibbfnaaDoorT
import Derived.Test.YtogninhgibbfnaaDoorB
namespace Go.Proofs.YtogninhgibbfnaaDoor
open Go.RowKit Go.Shelf
set_option maxRecDepth 100000
attribute [local go_sem] not_any mf_any

/- a stack of errors in memory, and what each tells -/
def Stk (W : World) (n0 : Nat) : St → List Info → Prop
  | [], [] => True
  | x :: st, i :: is => (∃ k, IsErr W n0 k x.1 i ∧ 0 ≤ x.2 ∧ x.2 + k ≤ 100000) ∧ Stk W n0 st is
  | _, _ => False

theorem Stk.kept {W W' : World} {n0 : Nat} (h : ∀ b o, b < n0 → W.heap[b]? = some o → W'.heap[b]? = some o) : ∀ {st : St} {is : List Info}, Stk W n0 st is → Stk W' n0 st is
  | [], [], _ => trivial
  | _ :: _, _ :: _, ⟨⟨k, h1, h2⟩, h3⟩ => ⟨⟨k, IsErr.kept h h1, h2⟩, Stk.kept h h3⟩
  | [], _ :: _, h' => h'.elim
  | _ :: _, [], h' => h'.elim

def total : List Info → Nat
  | [] => 0
  | i :: is => i.size + total is

theorem Stk.len {W : World} {n0 : Nat} : ∀ {st : St} {is : List Info}, Stk W n0 st is → st.length ≤ total is
  | [], [], _ => Nat.le_refl _
  | _ :: _, _ :: _, ⟨⟨k, h1, h2⟩, h3⟩ => by
    have := Stk.len h3
    have := h1.size_pos
    simp [total]
    omega
  | [], _ :: _, h' => h'.elim
  | _ :: _, [], h' => h'.elim

/- what is still to be written -/
def tailT : Bool → List Info → List UInt8
  | _, [] => []
  | en, i :: is => sepB en ++ i.text ++ tailT true is

def JT (nE : Nat) (full : List UInt8) (m : Nat) (st : St) (W : World) : Prop :=
  ∃ is dn en, Stk W nE st is ∧ m = total is ∧ m ≤ 1000000 ∧ Lib.IsBuilder 70 5 nE nE (Lib.byteCells dn) W ∧ W.heap[nE + 1]? = some (.cells #[.bool en] 4 (0, 0)) ∧ full = dn ++ tailT en is

theorem builder_kept {nE n1 bB : Nat} {bs : List Value} {W W' : World} (h : Lib.IsBuilder 70 5 nE bB bs W) (hk : Kp (So n1) W W') : Lib.IsBuilder 70 5 nE bB bs W' := by
  have keep : ∀ (k : Nat) (c : Array Value) (t : TypeId), (t ≠ 81) → (t ≠ 82) → W.heap[k]? = some (.cells c t (0, 0)) → W'.heap[k]? = some (.cells c t (0, 0)) := fun k c t h1 h2 hh => hk.same k _ hh (fun hs => by
    rcases hs.2 with ⟨_, _, e⟩ | ⟨_, _, e⟩ | e
    · cases e; exact h1 rfl
    · cases e; exact h2 rfl
    · cases e)
  have key : ∀ p, Lib.BuilderAt 70 5 nE bB p bs W → Lib.BuilderAt 70 5 nE bB p bs W' := by
    rintro p ⟨h1, u, h2, h3, h4⟩
    refine ⟨h1, u, keep _ _ _ (by decide) (by decide) h2, ⟨h3.1, ?_⟩, h4⟩
    rcases h3.2 with h0 | ⟨g, cap, cur, hv, hg, hh, rest⟩
    · exact .inl h0
    · exact .inr ⟨g, cap, cur, hv, hg, keep _ _ _ (by decide) (by decide) hh, rest⟩
  rcases h with h | h
  · exact .inl (key _ h)
  · exact .inr (key _ h)

theorem ST_low {nE : Nat} {k : Nat} {o : Obj} (h : ST nE nE (nE + 1) k o) : nE ≤ k := by
  rcases h with rfl | rfl | h
  · exact Nat.le_refl _
  · omega
  · exact h.1

theorem low_kept {nE : Nat} {S : Nat → Obj → Prop} {W W' : World} (h : Kp S W W') (hS : ∀ k o, S k o → nE ≤ k) : ∀ b o, b < nE → W.heap[b]? = some o → W'.heap[b]? = some o :=
  fun b o hb ho => h.same b o ho (fun hs => by have := hS b o hs; omega)

/- what is told of each kind of error -/
theorem tells_37 (nE : Nat) (c : Int) : Tells (37, .int .i64 c) (ST nE nE (nE + 1)) (fun _ => True) ⟨#[]⟩ false false (errWord c) true :=
  ⟨fun _ _ _ _ => trivial, fun W _ => place_37 _ W, fun h => (by cases h), fun _ W _ => word_37 c W⟩

theorem tells_root (nE b : Nat) (hb : b < nE) (c : Int) (s : ByteArray) (hc : (c == 0) = false) :
    Tells (74, .pointer (some ⟨b, 0, none⟩)) (ST nE nE (nE + 1)) (fun W => W.heap[b]? = some (.cells #[.int .i64 c, .string s, .nilIface] 76 (0, 0))) s true true (errWord c) true :=
  ⟨fun _ _ h hk => low_kept hk (fun _ _ => ST_low) _ _ hb h, fun W h => place_root b c s W h hc, fun h => (by cases h), fun _ W h => word_root b c s W h hc⟩

theorem tells_wrap (nE b : Nat) (hb : b < nE) (s : ByteArray) (e1 : E) :
    Tells (74, .pointer (some ⟨b, 0, none⟩)) (ST nE nE (nE + 1)) (fun W => W.heap[b]? = some (.cells #[.int .i64 0, .string s, ev e1] 76 (0, 0))) s true true ⟨#[]⟩ false :=
  ⟨fun _ _ h hk => low_kept hk (fun _ _ => ST_low) _ _ hb h, fun W h => place_wrap b s e1 W h, fun _ W _ => isOwn_74 _ W, fun h => (by cases h)⟩

theorem tells_pair (nE b : Nat) :
    Tells (77, .pointer (some ⟨b, 0, none⟩)) (ST nE nE (nE + 1)) (fun _ => True) ⟨#[]⟩ false true ⟨#[]⟩ false :=
  ⟨fun _ _ _ _ => trivial, fun W _ => place_77 _ W, fun _ W _ => isOwn_77 _ W, fun h => (by cases h)⟩

/- the visitor, whatever the flag -/
theorem textV (B bB bE : Nat) (e : E) (G : World → Prop) (ps wd : ByteArray) (own pb fin en : Bool) (dn : List UInt8) (W : World) (hT : Tells e (ST B bB bE) G ps pb own wd fin) (hG : G W)
    (hb : Lib.IsBuilder 70 5 B bB (Lib.byteCells dn) W) (hf : W.heap[bE]? = some (.cells #[.bool en] 4 (0, 0))) (hB : B ≤ W.heap.size) (hlen : dn.length + (sepB en ++ plB ps pb ++ wdB wd fin).length ≤ 140737488355328) :
    Calls Tryd.prog 39 #[ev e, .bool fin, .pointer (some ⟨bE, 0, none⟩), .pointer (some ⟨bB, 0, none⟩)] W fun x w' => x = .returned (.int .i64 (if fin then 1 else 0)) ∧
      Lib.IsBuilder 70 5 B bB (Lib.byteCells (dn ++ (sepB en ++ plB ps pb ++ wdB wd fin))) w' ∧ w'.heap[bE]? = some (.cells #[.bool fin] 4 (0, 0)) ∧ Kp (ST B bB bE) W w' := by
  cases en <;> cases pb <;> cases fin
  · exact textV_fff B bB bE e G ps wd own dn W hT hG hb hf hB hlen
  · exact textV_fft B bB bE e G ps wd own dn W hT hG hb hf hB hlen
  · exact textV_ftf B bB bE e G ps wd own dn W hT hG hb hf hB hlen
  · exact textV_ftt B bB bE e G ps wd own dn W hT hG hb hf hB hlen
  · exact textV_tff B bB bE e G ps wd own dn W hT hG hb hf hB hlen
  · exact textV_tft B bB bE e G ps wd own dn W hT hG hb hf hB hlen
  · exact textV_ttf B bB bE e G ps wd own dn W hT hG hb hf hB hlen
  · exact textV_ttt B bB bE e G ps wd own dn W hT hG hb hf hB hlen


theorem app4 (a b c d : Value) : (#[a, b] ++ #[c, d] : Array Value) = #[a, b, c, d] := rfl

theorem len_le (full a b c : List UInt8) (hf : full = a ++ (b ++ c)) (hl : full.length ≤ 1099511627776) : a.length + b.length ≤ 140737488355328 := by
  have := congrArg List.length hf
  simp at this
  omega

theorem textVisits (nE : Nat) (full : List UInt8) (hfull : full.length ≤ 1099511627776) :
    Visits 39 #[.pointer (some ⟨nE + 1, 0, none⟩), .pointer (some ⟨nE, 0, none⟩)] (ST nE nE (nE + 1)) (JT nE full) (fun W => Lib.IsBuilder 70 5 nE nE (Lib.byteCells full) W) (nE + 2) where
  enters := enters_of Tryd.func39 (by kernel_rfl) rfl
  len := by
    rintro m st W ⟨is, dn, en, h1, rfl, h2, _⟩
    have := h1.len
    omega
  stay := by
    rintro m st W W' ⟨is, dn, en, h1, h2, h3, h4, h5, h6⟩ hk
    have hlow := low_kept (nE := nE) hk (fun k o hs => by have := hs.1; omega)
    refine ⟨is, dn, en, h1.kept hlow, h2, h3, builder_kept h4 hk, hk.same _ _ h5 (fun hs => by have := hs.1; omega), h6⟩
  stayEnd := fun W W' h hk => builder_kept h hk
  done := by
    rintro m W ⟨is, dn, en, h1, h2, h3, h4, h5, h6⟩
    match is, h1 with
    | [], _ =>
      simp [tailT] at h6
      subst h6
      exact h4
  apart := by
    rintro k o hk (rfl | rfl | ⟨_, _, _, rfl⟩)
    · omega
    · omega
    · rintro ((⟨_, _, e⟩ | ⟨_, _, e⟩ | e) | ⟨_, _, e⟩ | ⟨_, _, e⟩) <;> cases e
  step := by
    rintro m x d st W hsz ⟨is, dn, en, h1, rfl, h3, h4, h5, h6⟩
    match is, h1 with
    | i :: is, ⟨⟨k, hE, hd0, hd1⟩, hst⟩ =>
    refine ⟨hd0, by simp at hd1; omega, ?_⟩
    simp only at hE hd0 hd1
    match k, hE, hd1 with
    | k + 1, hE, hd1 =>
    have key : ∀ (G : World → Prop) (ps wd : ByteArray) (own pb fin : Bool) (W' : World), Tells x (ST nE nE (nE + 1)) G ps pb own wd fin → G W → Below W.heap.size W W' →
        (∃ c, full = dn ++ ((sepB en ++ plB ps pb ++ wdB wd fin) ++ c)) →
        Calls Tryd.prog 39 #[ev x, .bool fin, .pointer (some ⟨nE + 1, 0, none⟩), .pointer (some ⟨nE, 0, none⟩)] W' fun y w' => y = .returned (.int .i64 (if fin then 1 else 0)) ∧
          Lib.IsBuilder 70 5 nE nE (Lib.byteCells (dn ++ (sepB en ++ plB ps pb ++ wdB wd fin))) w' ∧ w'.heap[nE + 1]? = some (.cells #[.bool fin] 4 (0, 0)) ∧ Kp (ST nE nE (nE + 1)) W' w' := by
      rintro G ps wd own pb fin W' hT hG hB ⟨c, hc⟩
      have hk : Kp (So (nE + 2)) W W' := Kp.ofBelow hB
      have hk2 : Kp (ST nE nE (nE + 1)) W W' := Kp.ofBelow hB
      exact textV nE nE (nE + 1) x G ps wd own pb fin en dn W' hT (hT.stay _ _ hG hk2) (builder_kept h4 hk) (hk.same _ _ h5 (fun hs => by have := hs.1; omega)) (by have := hB.size; omega) (len_le _ _ _ _ hc hfull)
    have lowW : ∀ W' w'', Below W.heap.size W W' → Kp (ST nE nE (nE + 1)) W' w'' → ∀ b o, b < nE → W.heap[b]? = some o → w''.heap[b]? = some o := fun W' w'' hB hk b o hb ho =>
      low_kept hk (fun _ _ => ST_low) b o hb ((hB.block b (lt_of_heap ho)).trans ho)
    rcases hE with ⟨c, rfl, hc, rfl⟩ | ⟨b, c, s, hb, rfl, hh, hc, rfl⟩ | ⟨b, s, e1, i1, hb, rfl, hh, hE1, rfl⟩ | ⟨b, e1, e2, i1, i2, hb, rfl, hh, hE1, hE2, rfl⟩
    · refine ⟨[], by simp, kids_37 W _, fun W' hB => ?_⟩
      refine (key _ _ _ _ _ _ W' (tells_37 nE c) trivial hB ⟨tailT true is, by simpa [tailT, plB, wdB] using h6⟩).mono ?_
      rintro y w'' ⟨rfl, hb1, hf1, hk1⟩
      refine ⟨1, rfl, hk1, .inr (.inl ⟨rfl, total is, by simp [total], is, _, true, hst.kept (lowW W' w'' hB hk1), rfl, by simp [total] at h3; omega, hb1, hf1, ?_⟩)⟩
      simpa [tailT, plB, wdB] using h6
    · refine ⟨[], by simp, kids_root W b c s hh, fun W' hB => ?_⟩
      refine (key _ _ _ _ _ _ W' (tells_root nE b hb c s hc) hh hB ⟨tailT true is, by simpa [tailT, plB, wdB] using h6⟩).mono ?_
      rintro y w'' ⟨rfl, hb1, hf1, hk1⟩
      refine ⟨1, rfl, hk1, .inr (.inl ⟨rfl, total is, by simp [total], is, _, true, hst.kept (lowW W' w'' hB hk1), rfl, by simp [total] at h3; omega, hb1, hf1, ?_⟩)⟩
      simpa [tailT, plB, wdB] using h6
    · refine ⟨[e1], by simp, kids_wrap W b s e1 hh, fun W' hB => ?_⟩
      refine (key _ _ _ _ _ _ W' (tells_wrap nE b hb s e1) hh hB ⟨i1.text ++ tailT true is, by simpa [tailT, plB, wdB] using h6⟩).mono ?_
      rintro y w'' ⟨rfl, hb1, hf1, hk1⟩
      refine ⟨0, rfl, hk1, .inr (.inr ⟨rfl, total (i1 :: is), by simp [total], i1 :: is, _, false, ⟨⟨k, IsErr.kept (lowW W' w'' hB hk1) hE1, by simp; omega, by simp; omega⟩, hst.kept (lowW W' w'' hB hk1)⟩, rfl, by simp [total] at h3 ⊢; omega, hb1, hf1, ?_⟩)⟩
      simpa [tailT, plB, wdB, sepB] using h6
    · refine ⟨[e1, e2], by simp, kids_pair W b e1 e2 hh, fun W' hB => ?_⟩
      refine (key _ _ _ _ _ _ W' (tells_pair nE b) trivial hB ⟨i1.text ++ (semi ++ (i2.text ++ tailT true is)), by simpa [tailT, plB, wdB] using h6⟩).mono ?_
      rintro y w'' ⟨rfl, hb1, hf1, hk1⟩
      refine ⟨0, rfl, hk1, .inr (.inr ⟨rfl, total (i1 :: i2 :: is), by simp [total]; omega, i1 :: i2 :: is, _, false, ⟨⟨k, IsErr.kept (lowW W' w'' hB hk1) hE1, by simp; omega, by simp; omega⟩, ⟨k, IsErr.kept (lowW W' w'' hB hk1) hE2, by simp; omega, by simp; omega⟩, hst.kept (lowW W' w'' hB hk1)⟩, rfl, by simp [total] at h3 ⊢; omega, hb1, hf1, ?_⟩)⟩
      simpa [tailT, plB, wdB, sepB] using h6

set_option maxHeartbeats 1000000 in
theorem text_any (e : E) (i : Info) (k : Nat) (w : World) (hE : IsErr w w.heap.size k e i) (hk : k ≤ 100000) (hs : i.size ≤ 1000000) (ht : i.text.length ≤ 1099511627776) :
    Calls Tryd.prog 18 #[ev e] w fun x w' => x = .returned (.string ⟨i.text.toArray⟩) ∧ Below w.heap.size w w' := by
  have H : Hid (IsErr w w.heap.size k e i ∧ k ≤ 100000 ∧ i.size ≤ 1000000 ∧ i.text.length ≤ 1099511627776) := ⟨hE, hk, hs, ht⟩
  clear hE hk hs ht
  go_enter Tryd.func18, Tryd.ntmps18
  go_wp2_with fail
  obtain ⟨hE, hk, hs, ht⟩ := H.out
  have hB1 : (w.alloc (.cells #[.pointer none, .slice none 0 0] 70)).heap[w.heap.size]? = some (.cells #[.pointer none, .slice none 0 0] 70 (0, 0)) := World.alloc_heap_new w _
  have hB2 : ((w.alloc (.cells #[.pointer none, .slice none 0 0] 70)).alloc (.cells #[.bool false] 4)).heap[w.heap.size + 1]? = some (.cells #[.bool false] 4 (0, 0)) := by
    have := World.alloc_heap_new (w.alloc (.cells #[.pointer none, .slice none 0 0] 70)) (.cells #[.bool false] 4)
    rwa [World.size_alloc] at this
  have hJ0 : JT w.heap.size i.text i.size [(e, 0)] ((w.alloc (.cells #[.pointer none, .slice none 0 0] 70)).alloc (.cells #[.bool false] 4)) := by
    refine ⟨[i], [], false, ⟨⟨k, hE.kept ?_, by simp, by simp; omega⟩, trivial⟩, by simp [total], hs, ?_, hB2, by simp [tailT, sepB]⟩
    · intro b o _ ho
      exact (Below.heap_alloc _ _ _ (by have := lt_of_heap ho; simp; omega)).trans ((Below.heap_alloc _ _ _ (lt_of_heap ho)).trans ho)
    · exact fresh_builder _ _ _ (Nat.le_refl _) ((Below.heap_alloc _ _ _ (by simp)).trans hB1)
  refine (walk_any 39 _ (ST w.heap.size w.heap.size (w.heap.size + 1)) (JT w.heap.size i.text) (fun W => Lib.IsBuilder 70 5 w.heap.size w.heap.size (Lib.byteCells i.text) W) i.size _ e (by simpa using textVisits w.heap.size i.text ht) hJ0).mono ?_
  rintro y w1 ⟨rfl, hb1, hk1⟩
  have hsz := hk1.size
  simp at hsz
  go_wp2_with fail
  refine (string_any w.heap.size w.heap.size i.text w1 hb1 (by omega)).mono ?_
  rintro y w2 ⟨rfl, hb2⟩
  go_wp2
  go_ret
  refine ⟨rfl, Below.trans ?_ hb2⟩
  refine Below.trans (((Below.refl _ _).alloc (Nat.le_refl _) _).alloc (by simp) _) (hk1.below (by simp; omega) (fun k o => ST_low))

end Go.Proofs.YtogninhgibbfnaaDoor
