/- A call of both tapes, and what is asked behind it: what is known on the way. -/
import Derived.Test.YtdkakodlkbkhnaaDoorF
namespace Go.Proofs.YtdkakodlkbkhnaaDoor
open Go.RowKit
set_option maxRecDepth 100000
attribute [local go_sem] not_any mf_any

/- both tapes, read as far -/
structure Dz (w0 w : World) (t b rb k c L : Nat) (a : Option Addr) (ws : List Nat) : Prop where
  wl : ws.length = L
  tp : Tp w t b k L
  row : w.heap[b]? = some (wrow ws)
  box : w.heap[rb]? = some (.cells #[.slice a L c, .int .i64 (k : Int)] 31 (0, 0))
  nl : Nl w0 L a ws
  cap : L ≤ c
  small : Small ws
  len : L ≤ 1048576
  bl : Below w0.heap.size w0 w
  et : Et w0
  lt : w0.heap.size ≤ t ∧ w0.heap.size ≤ b ∧ w0.heap.size ≤ rb
  ne : t ≠ rb ∧ b ≠ rb ∧ b ≠ t

def Tr (t rb : Nat) : Nat → Obj → Prop := fun j _ => j = t ∨ j = rb

theorem Dz.next {w0 w w' : World} {t b rb k k' c L : Nat} {a : Option Addr} {ws : List Nat} (h : Dz w0 w t b rb k c L a ws) (hk : Kp (Tr t rb) w w') (ht : Tp w' t b k' L) (hb : w'.heap[rb]? = some (.cells #[.slice a L c, .int .i64 (k' : Int)] 31 (0, 0))) : Dz w0 w' t b rb k' c L a ws :=
  ⟨h.wl, ht, hk.same _ _ h.row (fun h1 => h1.elim h.ne.2.2 h.ne.2.1), hb, h.nl, h.cap, h.small, h.len, h.bl.trans (hk.below h.bl.size (fun _ _ h1 => h1.elim (fun h2 => by rw [h2]; exact h.lt.1) (fun h2 => by rw [h2]; exact h.lt.2.2))), h.et, h.lt, h.ne⟩

def DoPost (w0 w : World) (t b rb k' c L : Nat) (a : Option Addr) (ws : List Nat) (e : Ending) (w' : World) : Prop :=
  e = .returned (.bool true) ∧ Dz w0 w' t b rb k' c L a ws ∧ Kp (Tr t rb) w w'

/- in the midst of it -/
structure Md (w W : World) (t b rb k k' kn c L : Nat) (a : Option Addr) (x y z code : Int) (v : Value) : Prop where
  e : IsE W code v
  tp : Tp W t b k' L
  bx : W.heap[rb]? = some (.cells #[.slice a L c, .int .i64 (k : Int)] 31 (0, 0))
  nxt : W.heap[w.heap.size + 1]? = some (.cells #[.slice a L c, .int .i64 (kn : Int)] 31 (0, 0))
  ac : W.heap[w.heap.size]? = some (.cells #[.int .i64 x, .int .i64 y, .int .i64 z] 35 (0, 0))
  kp : Kp (Tr t rb) w W

theorem Md.next {w W W' : World} {t b rb k k' kn c L : Nat} {a : Option Addr} {x y z code : Int} {v : Value} (h : Md w W t b rb k k' kn c L a x y z code v) (hb : Below W.heap.size W W') : Md w W' t b rb k k' kn c L a x y z code v :=
  ⟨h.e.below hb, h.tp.below hb h.tp.lt, (hb.block _ (lt_of_heap h.bx)).trans h.bx, (hb.block _ (lt_of_heap h.nxt)).trans h.nxt, (hb.block _ (lt_of_heap h.ac)).trans h.ac, h.kp.thenB (hb.mono h.kp.size)⟩

theorem IsE.set {W : World} {code : Int} {v : Value} {g j : Nat} {u : Value} (h : IsE W code v) (hg : ∀ b, v = .iface 93 (.pointer (some ⟨b, 0, none⟩)) → b ≠ g) : IsE (W.setCell ⟨g, j, none⟩ u) code v := by
  rcases h with h | ⟨hc, b, rfl, s, hr⟩
  · exact .inl h
  · exact .inr ⟨hc, b, rfl, s, (Below.heap_setCell _ _ _ _ (hg b rfl)).trans hr⟩

theorem Rt.not31 {W : World} {b g : Nat} {c : Int} {x y : Value} {t : TypeId} (h : Rt W b c) (hg : W.heap[g]? = some (.cells #[x, y] t (0, 0))) : b ≠ g := by
  rintro rfl
  obtain ⟨s, h⟩ := h
  rw [h] at hg
  cases hg

/- two cells of a box set -/
theorem IsE.set2 {W : World} {code : Int} {v : Value} {g : Nat} {x y : Value} {t : TypeId} (h : IsE W code v) (hg : W.heap[g]? = some (.cells #[x, y] t (0, 0))) (p q : Value) : IsE ((W.setCell ⟨g, 0, none⟩ p).setCell ⟨g, 1, none⟩ q) code v := by
  have hn : ∀ b, v = .iface 93 (.pointer (some ⟨b, 0, none⟩)) → b ≠ g := by
    intro b hb
    rcases h with ⟨_, h⟩ | ⟨_, b', hb', hr⟩
    · rw [h] at hb; cases hb
    · rw [hb'] at hb
      cases hb
      exact hr.not31 hg
  exact (h.set hn).set hn

theorem keep2 {W : World} {g i : Nat} {p q : Value} (h : i ≠ g) : ((W.setCell ⟨g, 0, none⟩ p).setCell ⟨g, 1, none⟩ q).heap[i]? = W.heap[i]? :=
  (Below.heap_setCell _ _ _ _ h).trans (Below.heap_setCell _ _ _ _ h)

theorem Md.put {w W : World} {t b rb k k' kn c L : Nat} {a : Option Addr} {x y z code : Int} {v : Value} (h : Md w W t b rb k k' kn c L a x y z code v) (ht : t < w.heap.size) (hr : rb < w.heap.size) (m : Nat) :
    Md w ((W.setCell ⟨w.heap.size + 1, 0, none⟩ (.slice a L c)).setCell ⟨w.heap.size + 1, 1, none⟩ (.int .i64 (m : Int))) t b rb k k' m c L a x y z code v :=
  ⟨h.e.set2 h.nxt _ _, h.tp.to (keep2 (by omega)), (keep2 (by omega)).trans h.bx, set2 h.nxt _ _, (keep2 (by omega)).trans h.ac,
    (h.kp.setCell _ (fun o ho => by have := lt_of_heap ho; simp at this; omega) _).setCell _ (fun o ho => by have := lt_of_heap ho; simp at this; omega) _⟩

/- from the beginning to what stands behind the tape's own call -/
theorem Md.first {w0 w W W' : World} {t b rb k k' c L : Nat} {a : Option Addr} {ws : List Nat} {x y z code : Int} {v : Value} (D : Dz w0 w t b rb k c L a ws)
    (ha : W.heap[w.heap.size]? = some (.cells #[.int .i64 x, .int .i64 y, .int .i64 z] 35 (0, 0))) (hn : W.heap[w.heap.size + 1]? = some (.cells #[.slice a L c, .int .i64 (k : Int)] 31 (0, 0)))
    (hb : Below w.heap.size w W) (hk : Kp (fun j _ => j = t) W W') (he : IsE W' code v) (ht : Tp W' t b k' L) : Md w W' t b rb k k' k c L a x y z code v :=
  have h1 := D.tp.lt
  have h2 := lt_of_heap D.box
  ⟨he, ht, hk.same _ _ ((hb.block _ h2).trans D.box) (fun h => D.ne.1 h.symm), hk.same _ _ hn (by omega), hk.same _ _ ha (by omega),
    (Kp.ofBelow hb).trans (hk.mono (fun j o _ hj => .inl hj))⟩

theorem Dz.to {w0 w W : World} {t b rb k c L : Nat} {a : Option Addr} {ws : List Nat} (D : Dz w0 w t b rb k c L a ws) (hk : Kp (Tr t rb) w W) : Below w0.heap.size w0 W :=
  D.bl.trans (hk.below D.bl.size (fun _ _ h1 => h1.elim (fun h2 => by rw [h2]; exact D.lt.1) (fun h2 => by rw [h2]; exact D.lt.2.2)))

/- what is known when all is told -/
structure Tl (w0 X : World) (t b rb k' c L : Nat) (a : Option Addr) (code : Int) (v : Value) : Prop where
  e : IsE X code v
  tp : Tp X t b k' L
  bx : X.heap[rb]? = some (.cells #[.slice a L c, .int .i64 (k' : Int)] 31 (0, 0))
  et : Et X
  len : L ≤ 1048576

theorem Md.last {w0 w W : World} {t b rb k k' c L : Nat} {a : Option Addr} {ws : List Nat} {x y z code : Int} {v : Value} (D : Dz w0 w t b rb k c L a ws) (h : Md w W t b rb k k' k' c L a x y z code v) :
    Tl w0 ((W.setCell ⟨rb, 0, none⟩ (.slice a L c)).setCell ⟨rb, 1, none⟩ (.int .i64 (k' : Int))) t b rb k' c L a code v ∧ Kp (Tr t rb) w ((W.setCell ⟨rb, 0, none⟩ (.slice a L c)).setCell ⟨rb, 1, none⟩ (.int .i64 (k' : Int))) :=
  have hk := (h.kp.setCell ⟨rb, 0, none⟩ (fun _ _ => .inr rfl) (.slice a L c)).setCell ⟨rb, 1, none⟩ (fun _ _ => .inr rfl) (.int .i64 (k' : Int))
  ⟨⟨h.e.set2 h.bx _ _, h.tp.to (keep2 D.ne.1), set2 h.bx _ _, D.et.below (D.to hk) D.et.pos, D.len⟩, hk⟩

theorem tl_code {w0 X : World} {t b rb k' c L : Nat} {a : Option Addr} {code : Int} {v : Value} (h : Tl w0 X t b rb k' c L a code v) (p : Bw X) : Hid (Calls Tryd.prog 17 #[v] p.w fun e w' => e = .returned (.int .i64 code) ∧ Below p.w.heap.size p.w w') :=
  code_any p.w code v (h.et.below p.h h.et.pos) (h.e.below p.h)
theorem tl_at {w0 X : World} {t b rb k' c L : Nat} {a : Option Addr} {code : Int} {v : Value} (h : Tl w0 X t b rb k' c L a code v) (p : Bw X) : Hid (Calls Tryd.prog 12 #[.pointer (some ⟨t, 0, none⟩)] p.w fun e w' => e = .returned (.int .i64 (k' : Int)) ∧ Below p.w.heap.size p.w w') :=
  (at_any t b k' L p.w (h.tp.below p.h h.tp.lt)).mono fun _ _ ⟨he, hw⟩ => ⟨he, by rw [hw]; exact Below.refl _ _⟩
theorem tl_left {w0 X : World} {t b rb k' c L : Nat} {a : Option Addr} {code : Int} {v : Value} (h : Tl w0 X t b rb k' c L a code v) (p : Bw X) : Hid (Calls Tryd.prog 13 #[.pointer (some ⟨t, 0, none⟩)] p.w fun e w' => e = .returned (.int .i64 ((L - k' : Nat) : Int)) ∧ Below p.w.heap.size p.w w') :=
  (left_any t b k' L p.w (h.tp.below p.h h.tp.lt) h.len).mono fun _ _ ⟨he, q, hw⟩ => ⟨he, by rw [hw]; exact below_drewN (Below.refl _ _) q⟩
theorem Tl.bw {w0 w X : World} {t b rb k k' c L : Nat} {a : Option Addr} {ws : List Nat} {code : Int} {v : Value} (h : Tl w0 X t b rb k' c L a code v) (hk : Kp (Tr t rb) w X) (D : Dz w0 w t b rb k c L a ws) (p : Bw X) : DoPost w0 w t b rb k' c L a ws (.returned (.bool true)) p.w :=
  have hk2 := hk.thenB (p.h.mono hk.size)
  ⟨rfl, D.next hk2 (h.tp.below p.h h.tp.lt) ((p.h.block _ (lt_of_heap h.bx)).trans h.bx), hk2⟩

/- the calls, by letters -/
def RTk (w : World) (s : Value) (k' : Nat) (code : Int) (l : List Nat) (e : Ending) (w' : World) : Prop :=
  ∃ a m c, e = .returned (.tuple #[.agg #[s, .int .i64 (k' : Nat)], .slice a m c, .int .i64 code]) ∧ Ow w' w.heap.size m a l ∧ Below w.heap.size w w'
theorem rtk {w0 w W : World} {t b rb k c L : Nat} {a : Option Addr} {ws : List Nat} (D : Dz w0 w t b rb k c L a ws) (hb : Below w0.heap.size w0 W) (n : Int) :
    Hid (Calls Tryd.prog 20 #[.agg #[.slice a L c, .int .i64 (k : Int)], .int .i64 n] W (RTk W (.slice a L c) (takeK n k L) (takeC n k L) (takeL n k ws))) := by
  have e := D.wl
  subst e
  exact rtake_any a c k n ws W (D.nl.next hb) D.cap D.tp.le D.len
theorem rnm {w0 w W : World} {t b rb k c L : Nat} {a : Option Addr} {ws : List Nat} (D : Dz w0 w t b rb k c L a ws) (hb : Below w0.heap.size w0 W) (n B : Int) :
    Hid (Calls Tryd.prog 22 #[.agg #[.slice a L c, .int .i64 (k : Int)], .int .i64 n, .int .i64 B] W (RTk W (.slice a L c) (numK n B k L) (numC n B k L) (numL n B k ws))) := by
  have e := D.wl
  subst e
  exact rnum_any a c k n B ws W (D.nl.next hb) D.cap D.tp.le D.small D.len

def Tk (w : World) (t b k' L : Nat) (code : Int) (l : List Nat) (e : Ending) (w' : World) : Prop :=
  ∃ a m c v, e = .returned (.tuple #[.slice a m c, v]) ∧ Ow w' w.heap.size m a l ∧ IsE w' code v ∧ Tp w' t b k' L ∧ Kp (fun j _ => j = t) w w'
theorem tk {w0 w W : World} {t b rb k c L : Nat} {a : Option Addr} {ws : List Nat} (D : Dz w0 w t b rb k c L a ws) (hb : Below w.heap.size w W) (n : Int) :
    Hid (Calls Tryd.prog 10 #[.pointer (some ⟨t, 0, none⟩), .int .i64 n] W (Tk W t b (takeK n k L) L (takeC n k L) (takeL n k ws))) := by
  have e := D.wl
  subst e
  exact take_any t b k n ws W (D.tp.below hb D.tp.lt) ((hb.block _ (lt_of_heap D.row)).trans D.row) D.len
theorem nm {w0 w W : World} {t b rb k c L : Nat} {a : Option Addr} {ws : List Nat} (D : Dz w0 w t b rb k c L a ws) (hb : Below w.heap.size w W) (n B : Int) :
    Hid (Calls Tryd.prog 21 #[.pointer (some ⟨t, 0, none⟩), .int .i64 n, .int .i64 B] W (Tk W t b (numK n B k L) L (numC n B k L) (numL n B k ws))) := by
  have e := D.wl
  subst e
  exact num_any t b k n B ws W (D.tp.below hb D.tp.lt) ((hb.block _ (lt_of_heap D.row)).trans D.row) D.small D.len
theorem Dz.lens {w0 w : World} {t b rb k c L : Nat} {a : Option Addr} {ws : List Nat} (D : Dz w0 w t b rb k c L a ws) (n : Int) : (takeL n k ws).length ≤ 1048576 :=
  Nat.le_trans (takeL_len n k ws) (by rw [D.wl]; exact D.len)

end Go.Proofs.YtdkakodlkbkhnaaDoor
