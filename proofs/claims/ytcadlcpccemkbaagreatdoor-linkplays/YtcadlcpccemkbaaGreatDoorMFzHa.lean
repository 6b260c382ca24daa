/- Code, of an error that is wrapped so often. Both ends side by side. -/
import Derived.Test.YtcadlcpccemkbaaGreatDoorMFwFm
import Derived.Test.YtcadlcpccemkbaaGreatDoorMDkFiFp
namespace Go.Proofs.YtcadlcpccemkbaaGreatDoor.F
open Go.RowKit Go.Shelf
set_option maxRecDepth 100000
attribute [local go_sem] not_any mf_any ev

def SC (nE : Nat) : Nat → Obj → Prop := fun k _ => k = nE ∨ k = nE + 1
theorem et_low {nE : Nat} {W W' : World} (h : Et W) (h0 : 0 < nE) (hl : ∀ b o, b < nE → W.heap[b]? = some o → W'.heap[b]? = some o) : Et W' := by
  have hlt := lt_cell h
  have hx : W.heap[0]? = some W.heap[0] := Array.getElem?_eq_getElem hlt
  exact (World.cell?_of_block (w := W) ((hl 0 _ h0 hx).trans hx.symm)).trans h
/- a chain of errors: wraps, the root at its end -/
def Ch (W : World) (c : Int) : Nat → Nat → Prop
  | 0, p => ∃ s, W.heap[p]? = some (.cells #[.int .i64 c, .string s, .nilIface] 101 (0, 0))
  | d + 1, p => ∃ t q, W.heap[p]? = some (.cells #[.int .i64 0, .string t, .iface 99 (.pointer (some ⟨q, 0, none⟩))] 101 (0, 0)) ∧ q < p ∧ Ch W c d q
theorem Ch.low {nE : Nat} {c : Int} {W W' : World} (hl : ∀ b o, b < nE → W.heap[b]? = some o → W'.heap[b]? = some o) : ∀ {d p : Nat}, p < nE → Ch W c d p → Ch W' c d p
  | 0, p, hp, ⟨s, h⟩ => ⟨s, hl p _ hp h⟩
  | _ + 1, p, hp, ⟨t, q, h, hq, hc⟩ => ⟨t, q, hl p _ hp h, hq, Ch.low hl (by omega) hc⟩
theorem Ch.lt {c : Int} {W : World} : ∀ {d p : Nat}, Ch W c d p → p < W.heap.size
  | 0, _, ⟨_, h⟩ => lt_of_heap h
  | _ + 1, _, ⟨_, _, h, _⟩ => lt_of_heap h
def pe (p : Nat) : E := (99, .pointer (some ⟨p, 0, none⟩))
theorem Seen.low {bS bM n : Nat} {ks : List E} {W W' : World} (h : Seen bS bM ks W) (hl : ∀ b o, b < n → W.heap[b]? = some o → W'.heap[b]? = some o) (h1 : bS < n) (h2 : bM < n) (hk : ∀ x ∈ ks, ∃ q, x = pe q ∧ q < n) : Seen bS bM ks W' := by
  obtain ⟨g1, es, clock, g2, g3, g4, g5⟩ := h
  refine ⟨hl _ _ h1 g1, es, clock, hl _ _ h2 g2, g3, g4, fun k hk' => ?_⟩
  obtain ⟨q, rfl, hq⟩ := hk k hk'
  obtain ⟨b, ⟨e, c, hb⟩ | ⟨e, c, hb⟩⟩ := g5 _ hk'
  · have e2 : q = b := by simpa [pe] using e
    subst e2
    exact ⟨q, .inl ⟨rfl, c, hl _ _ hq hb⟩⟩
  · simp [pe] at e
def JC (nE : Nat) (c : Int) (m : Nat) (st : St) (W : World) : Prop :=
  (∃ (d p : Nat) (lv : Int) (ks : List E), m = d + 1 ∧ st = [(pe p, lv)] ∧ 0 ≤ lv ∧ lv + (d : Int) ≤ 1000 ∧ Ch W c d p ∧ p < nE ∧ (0 < d → Seen (nE + 2) (nE + 1) ks W ∧ ∀ x ∈ ks, ∃ q, x = pe q ∧ p < q ∧ q < nE)) ∧ Et W ∧ 0 < nE ∧
    (∃ v, W.heap[nE]? = some (.cells #[v] 29 (0, 0))) ∧ W.heap[nE + 3]? = some (.cells #[.func (.func 44) #[] #[.pointer (some ⟨nE + 2, 0, none⟩)]] 68 (0, 0))

theorem chainVisits (nE : Nat) (c : Int) (hc : (c == 0) = false) :
    Visits 22 #[.pointer (some ⟨nE, 0, none⟩), .pointer (some ⟨nE + 3, 0, none⟩)] (SC nE) (JC nE c) (fun W => W.heap[nE]? = some (.cells #[.int .i64 c] 29 (0, 0))) (nE + 4) where
  enters := enters_of Tryz.func22 (by kernel_rfl) rfl
  len := by
    rintro m st W ⟨⟨d, p, lv, ks, _, rfl, _⟩, _⟩
    simp
  stay := by
    rintro m st W W' ⟨⟨d, p, lv, ks, h1, h2, h3, h4, h5, h6, h7⟩, h8, h9, ⟨v, h10⟩, h11⟩ hk
    have hl := low_kept hk (fun k o hs => hs.1)
    refine ⟨⟨d, p, lv, ks, h1, h2, h3, h4, h5.low hl (by omega), h6, fun hd => ⟨(h7 hd).1.low hl (by omega) (by omega) fun x hx => ?_, (h7 hd).2⟩⟩, et_low h8 h9 (fun b o hb => hl b o (by omega)), h9, ⟨v, hl _ _ (by omega) h10⟩, hl _ _ (by omega) h11⟩
    obtain ⟨q, e, _, hq⟩ := (h7 hd).2 x hx
    exact ⟨q, e, by omega⟩
  stayEnd := fun W W' h hk => So_keep hk _ _ _ (by decide) (by decide) h
  done := by
    rintro m W ⟨⟨d, p, lv, ks, _, h, _⟩, _⟩
    cases h
  apart := by
    rintro k o hk (rfl | rfl) <;> omega
  step := by
    rintro m x dd st W hsz ⟨⟨d, p, lv, ks, rfl, hst, h3, h4, h5, h6, h7⟩, h8, h9, ⟨v, h10⟩, h11⟩
    cases hst
    cases d with
    | zero =>
      obtain ⟨s, h5⟩ := h5
      refine ⟨h3, by omega, [], by simp, kids_root W p c s h5, fun W' hB => ?_⟩
      refine (codeV_root p nE c v _ W' ((hB.block _ (lt_of_heap h10)).trans h10) ((hB.cell (p := ⟨0, 0, none⟩) (lt_cell h8)).trans h8) ⟨s, (hB.block _ (lt_of_heap h5)).trans h5⟩ hc).mono ?_
      rintro y w'' ⟨rfl, hb1, hk1⟩
      exact ⟨2, rfl, hk1.mono (fun k o _ hs => .inl hs), .inl ⟨rfl, hb1⟩⟩
    | succ d =>
      obtain ⟨t, q, h5, hq, hch⟩ := h5
      obtain ⟨hs, hks⟩ := h7 (by omega)
      refine ⟨h3, by omega, [pe q], by simp, kids_wrap W p t (pe q) h5, fun W' hB => ?_⟩
      have h5' := (hB.block _ (lt_of_heap h5)).trans h5
      have hnin : pe p ∉ ks := fun hm => by
        obtain ⟨q', e, hlt, _⟩ := hks _ hm
        have e2 : p = q' := by
          unfold pe at e
          injection e with _ e
          injection e with e
          injection e with e
          injection e
        omega
      refine (codeV_in (pe p) _ (nE + 3) (nE + 2) (nE + 1) ks W' ((hB.block _ (lt_of_heap h11)).trans h11) (fun W1 hB1 => isHollow_wrap p 99 (.pointer (some ⟨q, 0, none⟩)) W1 ((fault_cells ((hB1.block _ (lt_of_heap h5')).trans h5')).2.2)) ⟨p, .inl ⟨rfl, _, h5'⟩⟩ (hs.below hB) hnin).mono ?_
      rintro e w'' ⟨rfl, hs'', hk''⟩
      have hlow : ∀ b o, b ≠ nE + 1 → W.heap[b]? = some o → w''.heap[b]? = some o := fun b o hb ho => hk''.same b o ((hB.block b (lt_of_heap ho)).trans ho) hb
      refine ⟨0, rfl, hk''.mono (fun k o _ hs => .inr hs), .inr (.inr ⟨rfl, d + 1, by omega, ⟨d, q, dd + 1, ks ++ [pe p], rfl, rfl, by omega, by omega, hch.low (nE := nE) (fun b o hb => hlow b o (by omega)) (by omega), by omega, fun _ => ⟨hs'', fun x hx => ?_⟩⟩, et_low h8 h9 (fun b o hb => hlow b o (by omega)), h9, ⟨v, hlow _ _ (by omega) h10⟩, hlow _ _ (by omega) h11⟩)⟩
      rcases List.mem_append.1 hx with hx | hx
      · obtain ⟨q', e, hlt, hlt2⟩ := hks x hx
        exact ⟨q', e, by omega, hlt2⟩
      · obtain rfl := List.mem_singleton.1 hx
        exact ⟨p, rfl, hq, h6⟩

set_option maxHeartbeats 1000000 in
theorem code_chain (d p : Nat) (c : Int) (w : World) (he : Et w) (hc : (c == 0) = false) (hd : d ≤ 2) (h1 : Ch w c d p) :
    Calls Tryz.prog 6 #[.iface 99 (.pointer (some ⟨p, 0, none⟩))] w fun x w' => x = .returned (.int .i64 c) ∧ Below w.heap.size w w' := by
  have H := hide1 (And.intro he (And.intro hc (And.intro hd h1)))
  clear he hc h1 hd
  go_enter Tryz.func6, Tryz.ntmps6
  go_wp2_with fail
  refine (once_any _).mono ?_
  rintro y w0 ⟨rfl, rfl⟩
  go_wp2_with fail
  obtain ⟨he, hc, hd, h1⟩ := H.out
  obtain ⟨W, hW⟩ : ∃ W, ((((w.alloc (.cells #[.int .i64 1] 29)).alloc (.map #[] 0)).alloc (.cells #[.map (some (w.heap.size + 1))] 102)).alloc (.cells #[.func (.func 44) #[] #[.pointer (some ⟨w.heap.size + 1 + 1, 0, none⟩)]] 68)) = W := ⟨_, rfl⟩
  have hsz : W.heap.size = w.heap.size + 4 := by rw [← hW]; simp
  have hB : Below w.heap.size w W := by
    rw [← hW]
    repeat (first | exact Below.refl _ _ | refine Below.alloc ?_ (by first | omega | (simp; omega) | simp) _)
  have g0 : W.heap[w.heap.size]? = some (.cells #[.int .i64 1] 29 (0, 0)) := by
    rw [← hW]
    exact (Below.heap_alloc _ _ _ (by simp; omega)).trans ((Below.heap_alloc _ _ _ (by simp; omega)).trans ((Below.heap_alloc _ _ _ (by simp)).trans (World.alloc_heap_new w _)))
  have g1 : W.heap[w.heap.size + 1]? = some (.map #[] 0) := by
    rw [← hW]
    refine (Below.heap_alloc _ _ _ (by simp)).trans ((Below.heap_alloc _ _ _ (by simp)).trans ?_)
    have := World.alloc_heap_new (w.alloc (.cells #[.int .i64 1] 29)) (.map #[] 0)
    rwa [World.size_alloc] at this
  have g2 : W.heap[w.heap.size + 2]? = some (.cells #[.map (some (w.heap.size + 1))] 102 (0, 0)) := by
    rw [← hW]
    refine (Below.heap_alloc _ _ _ (by simp)).trans ?_
    have := World.alloc_heap_new ((w.alloc (.cells #[.int .i64 1] 29)).alloc (.map #[] 0)) (.cells #[.map (some (w.heap.size + 1))] 102)
    rwa [World.size_alloc, World.size_alloc] at this
  have g3 : W.heap[w.heap.size + 3]? = some (.cells #[.func (.func 44) #[] #[.pointer (some ⟨w.heap.size + 2, 0, none⟩)]] 68 (0, 0)) := by
    rw [← hW]
    have := World.alloc_heap_new (((w.alloc (.cells #[.int .i64 1] 29)).alloc (.map #[] 0)).alloc (.cells #[.map (some (w.heap.size + 1))] 102)) (.cells #[.func (.func 44) #[] #[.pointer (some ⟨w.heap.size + 1 + 1, 0, none⟩)]] 68)
    rwa [World.size_alloc, World.size_alloc, World.size_alloc] at this
  rw [hW]
  clear hW
  have hJ0 : JC w.heap.size c (d + 1) [(pe p, 0)] W :=
    ⟨⟨d, p, 0, [], rfl, rfl, Int.le_refl 0, by omega, h1.low (nE := w.heap.size) (fun b o hb ho => (hB.block b hb).trans ho) h1.lt, h1.lt, fun _ => ⟨⟨g2, _, _, g1, rfl, (fun m hm => by simp at hm), (fun k hk => by cases hk)⟩, fun x hx => by cases hx⟩⟩, (hB.cell (p := ⟨0, 0, none⟩) (lt_cell he)).trans he, lt_cell he, ⟨_, g0⟩, g3⟩
  refine (walk_any 22 _ (SC w.heap.size) (JC w.heap.size c) (fun W => W.heap[w.heap.size]? = some (.cells #[.int .i64 c] 29 (0, 0))) (d + 1) W (pe p) (by rw [hsz]; exact chainVisits w.heap.size c hc) hJ0).mono ?_
  rintro y w1 ⟨rfl, hb1, hk1⟩
  have hc1 : w1.cell? ⟨w.heap.size, 0, none⟩ = some (.int .i64 c) := by simp [World.cell?, hb1]
  clear H he hc h1 hJ0 g0 g1 g2 g3
  go_wp2
  go_ret
  exact ⟨rfl, hB.trans (hk1.below (by omega) (fun k o hs => by rcases hs with rfl | rfl <;> omega))⟩

end Go.Proofs.YtcadlcpccemkbaaGreatDoor.F

namespace Go.Proofs.YtcadlcpccemkbaaGreatDoor
open Go.RowKit
set_option maxRecDepth 100000
attribute [local go_sem] not_any

theorem ch_of {w : World} {c : Int} : ∀ {d p : Nat}, Chn w c d p → F.Ch w c d p
  | 0, _, h => h
  | _ + 1, _, ⟨t, q, h, hq, hc⟩ => ⟨t, q, h, hq, ch_of hc⟩
theorem code_erl (w : World) (c : Int) (z : Value) (he : F.Et w) (h : Erl w c z) : Calls Tryz.prog 6 #[z] w fun e w' => e = .returned (.int .i64 c) ∧ Below w.heap.size w w' := by
  rcases h with ⟨rfl, rfl⟩ | ⟨hc, d, p, hd, rfl, hch⟩
  · refine (F.code_nil w).mono ?_
    rintro e w' ⟨rfl, rfl⟩
    exact ⟨rfl, Below.refl _ _⟩
  · exact F.code_chain d p c w he (by simpa using hc) hd (ch_of hch)
theorem Er.erl {w : World} {c : Int} {z : Value} (h : Er w c z) : Erl w c z := by
  rcases h with h | ⟨hc, p, rfl, h⟩
  · exact .inl h
  · exact .inr ⟨hc, 0, p, by omega, rfl, _, h⟩

/- the program's end x, the document's y, boxes G of the call's own -/
structure Dw (B s n : Nat) (v m u : Value) (x y : Ls) (LL : List ByteArray) (LLv hv lv : Value) (G : Nat → Prop) (W : World) : Prop where
  lk : Lkm B s v m u n x W
  rf : Rf y LL LLv hv lv W
  et : F.Et W
  pos : 0 < B
  rl : ∀ b, Ro y LL LLv hv lv b → ¬ Lf s v m u b
  bs : ∀ b, G b → B ≤ b ∧ b < W.heap.size ∧ ¬ Lf s v m u b ∧ ¬ Ro y LL LLv hv lv b
variable {B s n : Nat} {v m u : Value} {x y : Ls} {LL : List ByteArray} {LLv hv lv : Value} {G : Nat → Prop} {W : World}
theorem Dw.size (h : Dw B s n v m u x y LL LLv hv lv G W) : B ≤ W.heap.size := by
  have := h.lk.flt (g := s) (.inl rfl)
  omega
theorem Dw.below (h : Dw B s n v m u x y LL LLv hv lv G W) {W' : World} (hb : Below W.heap.size W W') : Dw B s n v m u x y LL LLv hv lv G W' :=
  ⟨h.lk.below hb (Nat.le_refl _), h.rf.below hb, h.et.below hb (by have := h.size; have := h.pos; omega), h.pos, h.rl, fun b hG => ⟨(h.bs b hG).1, Nat.lt_of_lt_of_le (h.bs b hG).2.1 hb.size, (h.bs b hG).2.2⟩⟩
theorem Dw.kp (h : Dw B s n v m u x y LL LLv hv lv G W) {W' : World} (hk : Kp G W W') : Dw B s n v m u x y LL LLv hv lv G W' ∧ Below B W W' := by
  have hb : Below B W W' := hk.below h.size fun b hG => (h.bs b hG).1
  exact ⟨⟨h.lk.kp hk fun b hb hG => (h.bs b hG).2.2.1 hb, h.rf.kp hk fun b hb hG => (h.bs b hG).2.2.2 hb, h.et.below hb h.pos, h.pos, h.rl, fun b hG => ⟨(h.bs b hG).1, Nat.lt_of_lt_of_le (h.bs b hG).2.1 hk.size, (h.bs b hG).2.2⟩⟩, hb⟩
theorem Dw.row (h : Dw B s n v m u x y LL LLv hv lv G W) {b : Nat} (hb : G b) (cs : Array Value) : Dw B s n v m u x y LL LLv hv lv G (W.setRow b cs) ∧ Below B W (W.setRow b cs) :=
  h.kp ((kp_setRow W b cs).mono fun _ e => e ▸ hb)
theorem Dw.more (h : Dw B s n v m u x y LL LLv hv lv G W) (o : Obj) : Dw B s n v m u x y LL LLv hv lv (fun b => G b ∨ b = W.heap.size) (W.alloc o) := by
  have h1 := h.below (below1 o)
  refine ⟨h1.lk, h1.rf, h1.et, h1.pos, h1.rl, fun b hG => ?_⟩
  rcases hG with hG | rfl
  · exact h1.bs b hG
  · exact ⟨h.size, by simp, fun e => by have := (h.lk.flt e).2; omega, fun e => by have := h.rf.lt e; omega⟩
theorem Dw.mono {G' : Nat → Prop} (h : Dw B s n v m u x y LL LLv hv lv G W) (hG : ∀ b, G' b → G b) : Dw B s n v m u x y LL LLv hv lv G' W :=
  ⟨h.lk, h.rf, h.et, h.pos, h.rl, fun b hb => h.bs b (hG b hb)⟩
/- behind a call of the document's -/
theorem Dw.doc (h : Dw B s n v m u x y LL LLv hv lv G W) {y' : Ls} {LL' : List ByteArray} {LLv' hv' lv' : Value} {W' : World} (hp : Rfp y LL LLv hv lv W y' LL' LLv' hv' lv' W') : Dw B s n v m u x y' LL' LLv' hv' lv' G W' := by
  have h1 := h.below hp.2.1
  refine ⟨h1.lk, hp.1, h1.et, h1.pos, fun b hb hL => ?_, fun b hG => ⟨(h1.bs b hG).1, (h1.bs b hG).2.1, (h1.bs b hG).2.2.1, fun hb => ?_⟩⟩
  · rcases hp.2.2 b hb with e | e
    · exact h.rl b e hL
    · have := (h.lk.flt hL).2; omega
  · rcases hp.2.2 b hb with e | e
    · exact (h.bs b hG).2.2.2 e
    · have := (h.bs b hG).2.1; omega
/- behind a call of the program's -/
theorem Dw.prog (h : Dw B s n v m u x y LL LLv hv lv G W) {n' : Nat} {x' : Ls} {W' : World} (hp : Lkp B s v m u W n' x' W') : ∃ v' m' u', Dw B s n' v' m' u' x' y LL LLv hv lv G W' ∧ Below B W W' ∧ ∀ b, G b → W'.heap[b]? = W.heap[b]? := by
  obtain ⟨v', m', u', h1, h2, h3⟩ := hp
  have hb : Below B W W' := h2.below h.size fun b e => (h.lk.flt e).1
  have hn : ∀ b, b < W.heap.size → ¬ Lf s v m u b → ¬ Lf s v' m' u' b := fun b hl hn e => by
    rcases h3 b e with k | k
    · exact hn k
    · omega
  refine ⟨v', m', u', ⟨h1, h.rf.kp h2 h.rl, h.et.below hb h.pos, h.pos, fun b hb => hn b (h.rf.lt hb) (h.rl b hb), fun b hG => ⟨(h.bs b hG).1, Nat.lt_of_lt_of_le (h.bs b hG).2.1 h2.size, hn b (h.bs b hG).2.1 (h.bs b hG).2.2.1, (h.bs b hG).2.2.2⟩⟩, hb, fun b hG => h2.block b (h.bs b hG).2.1 (h.bs b hG).2.2.1⟩
/- both ends alike, the document's in a box -/
def Dv (B s gr n : Nat) (x : Ls) (M : Nat) (W : World) : Prop :=
  ∃ v m u LL LLv hv lv, Dw B s n v m u x x LL LLv hv lv (fun b => b = gr) W ∧ W.heap[gr]? = some (.cells (rcs x LLv hv lv) 39 (0, 0)) ∧ LL.length + x.Q.length ≤ M
theorem act_cells {w : World} {g : Nat} {x0 x1 x2 x3 x4 x5 x6 x7 : Value} {t : TypeId} (h : w.heap[g]? = some (.cells #[x0, x1, x2, x3, x4, x5, x6, x7] t (0, 0))) : (w.cell? ⟨g, 0, none⟩ = some x0 ∧ w.cell? ⟨g, 1, none⟩ = some x1 ∧ w.cell? ⟨g, 2, none⟩ = some x2 ∧ w.cell? ⟨g, 3, none⟩ = some x3 ∧ w.cell? ⟨g, 4, none⟩ = some x4 ∧ w.cell? ⟨g, 5, none⟩ = some x5 ∧ w.cell? ⟨g, 6, none⟩ = some x6 ∧ w.cell? ⟨g, 7, none⟩ = some x7) ∧ ∀ j, w.frozen? ⟨g, j, none⟩ = false :=
  ⟨⟨by rw [cell_of_row w g 0 _ _ _ h]; rfl, by rw [cell_of_row w g 1 _ _ _ h]; rfl, by rw [cell_of_row w g 2 _ _ _ h]; rfl, by rw [cell_of_row w g 3 _ _ _ h]; rfl, by rw [cell_of_row w g 4 _ _ _ h]; rfl, by rw [cell_of_row w g 5 _ _ _ h]; rfl, by rw [cell_of_row w g 6 _ _ _ h]; rfl, by rw [cell_of_row w g 7 _ _ _ h]; rfl⟩, fun j => frozen_of_row w g j _ _ h⟩
theorem lkp_drew {w' : World} {n' : Nat} {x' : Ls} (h : Lkp B s v m u W.drew n' x' w') : Lkp B s v m u W n' x' w' := by
  obtain ⟨v', m', u', h1, h2, h3⟩ := h
  exact ⟨v', m', u', h1, (Kp.ofBelow (Below.refl _ _).drew).trans h2, h3⟩
end Go.Proofs.YtcadlcpccemkbaaGreatDoor
