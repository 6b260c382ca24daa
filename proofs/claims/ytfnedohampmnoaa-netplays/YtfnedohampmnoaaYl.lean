/- Both networks in memory, call by call. -/
import Derived.Test.YtfnedohampmnoaaYy
import Derived.Test.YtfnedohampmnoaaYj
import Derived.Test.YtfnedohampmnoaaYc
namespace Go.Proofs.Ytfnedohampmnoaa
open Go.RowKit
set_option maxRecDepth 100000

/- what is on its way behind a call -/
def actN (N : Nat → List ByteArray) (kd q i k : Int) (s : ByteArray) (b : Nat) : Nat → List ByteArray :=
  if kd = 0 then sndN N q s else if kd = 1 then takN N q i else if kd = 2 then takN N q i else if kd = 3 then dblN N q i else if kd = 4 then swpN N q i k else if kd = 5 then frgN N q i s else if kd = 6 then trnN N q i k b else clrN N q
theorem Sm.act {N : Nat → List ByteArray} (h : Sm N) (kd q i k : Int) (s : ByteArray) (b : Nat) : Sm (actN N kd q i k s b) := by
  unfold actN
  split
  · exact h.snd _ _
  · split
    · exact h.tak _ _
    · split
      · exact h.tak _ _
      · split
        · exact h.dbl _ _
        · split
          · exact h.swp _ _ _
          · split
            · exact h.frg _ _ _
            · split
              · exact h.trn _ _ _ _
              · exact h.clr _

theorem Lst.base {B C : Nat} {w : World} {v : Value} {A : List ByteArray} (h : Lst C w v A) (hb : ∀ g, v.ownBlock = some g → B ≤ g) : Lst B w v A := by
  refine ⟨h.1, ?_⟩
  rcases h.2 with hn | ⟨g, cap, cur, rfl, _, rest⟩
  · exact .inl hn
  · exact .inr ⟨g, cap, cur, rfl, hb g rfl, rest⟩
/- a list's row is not an object of another type -/
theorem Lst.notBox {B : Nat} {w : World} {v : Value} {A : List ByteArray} {g : Nat} {cs : Array Value} (h : Lst B w v A) (hb : w.heap[g]? = some (.cells cs 27 (0, 0))) : v.ownBlock ≠ some g := by
  rcases h.2 with ⟨rfl, _⟩ | ⟨g', cap, cur, rfl, _, hg, _⟩
  · intro e
    cases e
  · intro e
    have e' : g' = g := Option.some.inj e
    subst e'
    rw [hg] at hb
    cases hb

/- the document's new lists beside the network -/
structure Zs (B t r : Nat) (x : Nat → Value) (z0 z1 : Value) (N : Nat → List ByteArray) (w : World) : Prop where
  l0 : Lst B w z0 (N 0)
  l1 : Lst B w z1 (N 1)
  zr : ∀ g, z0.ownBlock = some g ∨ z1.ownBlock = some g → g ≠ r ∧ g ≠ t ∧ ∀ k, k < 2 → (x k).ownBlock ≠ some g

/- behind the program's call -/
theorem Tr.stepped {B t r : Nat} {x y x' : Nat → Value} {N M N' : Nat → List ByteArray} {w W3 W4 : World} {z0 z1 : Value} (h : Tr B t r 27 x y N M w) (hb : Below w.heap.size w W3) (h0 : Lst 0 W3 z0 (N' 0)) (h1 : Lst 0 W3 z1 (N' 1))
    (hf : ∀ g, z0.ownBlock = some g ∨ z1.ownBlock = some g → (y 0).ownBlock = some g ∨ (y 1).ownBlock = some g ∨ w.heap.size ≤ g) (hn : Nw B t x' N' W4) (hv : Mv t x x' W3 W4) :
    Tr B t r 27 x' y N' M W4 ∧ Zs B t r x' z0 z1 N' W4 ∧ ∀ g, w.heap.size ≤ g → g < W3.heap.size → W4.heap[g]? = W3.heap[g]? := by
  have h3 := h.below hb
  have h4 := h3.called hn hv
  have htl := lt_heap h.net.row
  have hrl := lt_heap h.row
  have hlow := h.net.low
  have hxl : ∀ k, k < 2 → ∀ g, (x k).ownBlock = some g → g < w.heap.size := fun k hk g hg => ((h.net.own k hk).lt hg).2
  have hold : ∀ g, z0.ownBlock = some g ∨ z1.ownBlock = some g → g ≠ r ∧ g ≠ t ∧ (∀ k, k < 2 → (x k).ownBlock ≠ some g) ∧ B ≤ g := fun g hg => by
    rcases hf g hg with e | e | e
    · exact ⟨fun e' => h.yr 0 (by omega) (e' ▸ e), fun e' => h.yt 0 (by omega) (e' ▸ e), fun k hk e' => h.xy k hk 0 (by omega) g e' e, ((h.own 0 (by omega)).lt e).1⟩
    · exact ⟨fun e' => h.yr 1 (by omega) (e' ▸ e), fun e' => h.yt 1 (by omega) (e' ▸ e), fun k hk e' => h.xy k hk 1 (by omega) g e' e, ((h.own 1 (by omega)).lt e).1⟩
    · exact ⟨by omega, by omega, fun k hk e' => by have := hxl k hk g e'; omega, by omega⟩
  have hlt : ∀ g, z0.ownBlock = some g ∨ z1.ownBlock = some g → g < W3.heap.size := fun g hg => by
    rcases hg with e | e
    · exact (h0.lt e).2
    · exact (h1.lt e).2
  have hkeep : ∀ g, z0.ownBlock = some g ∨ z1.ownBlock = some g → W4.heap[g]? = W3.heap[g]? := fun g hg => hv.kept g (hlt g hg) (hold g hg).2.1 (hold g hg).2.2.1
  refine ⟨h4, ⟨(h0.same fun g hg => hkeep g (.inl hg)).base fun g hg => (hold g (.inl hg)).2.2.2, (h1.same fun g hg => hkeep g (.inr hg)).base fun g hg => (hold g (.inr hg)).2.2.2, fun g hg => ⟨(hold g hg).1, (hold g hg).2.1, fun k hk e => ?_⟩⟩, fun g hg hl => hv.kept g hl (by omega) (fun k hk e => by have := hxl k hk g e; omega)⟩
  rcases hv.fresh k hk g e with ⟨j, hj, e'⟩ | e'
  · exact (hold g hg).2.2.1 j hj e'
  · have := hlt g hg
    omega

/- another box is written -/
theorem Tr.boxed {B t r nb : Nat} {x y : Nat → Value} {N M : Nat → List ByteArray} {W W' : World} {z0 z1 : Value} {cs : Array Value} (h : Tr B t r 27 x y N M W) (hz : Zs B t r x z0 z1 N W) (hnb : W.heap[nb]? = some (.cells cs 27 (0, 0))) (ht : nb ≠ t) (hr : nb ≠ r)
    (hk : ∀ g, g ≠ nb → W'.heap[g]? = W.heap[g]?) : Tr B t r 27 x y N M W' ∧ Zs B t r x z0 z1 N W' := by
  have sl : ∀ {v : Value} {A : List ByteArray}, Lst B W v A → Lst B W' v A := fun hl => hl.same fun g hg => hk g (fun e => hl.notBox hnb (e ▸ hg))
  exact ⟨⟨⟨(hk t (Ne.symm ht)).trans h.net.row, fun k hk' => sl (h.net.own k hk'), h.net.ne, h.net.nt, h.net.low⟩, (hk r (Ne.symm hr)).trans h.row, fun k hk' => sl (h.own k hk'), h.yr, h.yt, h.xr, h.xy, h.tr, h.low⟩, ⟨sl hz.l0, sl hz.l1, hz.zr⟩⟩

/- the document's lists are the new ones now -/
theorem Tr.last {B t r : Nat} {x y : Nat → Value} {N M : Nat → List ByteArray} {W : World} {z0 z1 : Value} (h : Tr B t r 27 x y N M W) (hz : Zs B t r x z0 z1 N W) :
    ∃ z, Tr B t r 27 x z N N ((W.setCell ⟨r, 0, none⟩ z0).setCell ⟨r, 1, none⟩ z1) := by
  have hk : ∀ g, g ≠ r → ((W.setCell ⟨r, 0, none⟩ z0).setCell ⟨r, 1, none⟩ z1).heap[g]? = W.heap[g]? := fun g hg => by
    rw [heap_setCell_other _ _ _ _ hg, heap_setCell_other _ _ _ _ hg]
  refine ⟨fun k => if k = 0 then z0 else z1, ⟨(hk t h.tr).trans h.net.row, fun k hk' => (h.net.own k hk').same fun g hg => hk g (fun e => h.xr k hk' (e ▸ hg)), h.net.ne, h.net.nt, h.net.low⟩, set_box2 h.row, fun k hk' => ?_, fun k hk' e => ?_, fun k hk' e => ?_, h.xr, fun j hj k hk' g hg e => ?_, h.tr, h.low⟩
  · rcases (show k = 0 ∨ k = 1 by omega) with rfl | rfl
    · exact hz.l0.same fun g hg => hk g (hz.zr g (.inl hg)).1
    · exact hz.l1.same fun g hg => hk g (hz.zr g (.inr hg)).1
  · rcases (show k = 0 ∨ k = 1 by omega) with rfl | rfl
    · exact (hz.zr r (.inl e)).1 rfl
    · exact (hz.zr r (.inr e)).1 rfl
  · rcases (show k = 0 ∨ k = 1 by omega) with rfl | rfl
    · exact (hz.zr t (.inl e)).2.1 rfl
    · exact (hz.zr t (.inr e)).2.1 rfl
  · rcases (show k = 0 ∨ k = 1 by omega) with rfl | rfl
    · exact (hz.zr g (.inl e)).2.2 j hj hg
    · exact (hz.zr g (.inr e)).2.2 j hj hg
theorem An.fresh {B t r : Nat} {x y : Nat → Value} {N M N' : Nat → List ByteArray} {w U W : World} {z0 z1 : Value} (_ : Tr B t r 27 x y N M w) (hb : w.heap.size ≤ U.heap.size) (an : An U (y 0) (y 1) N' z0 z1 W) :
    ∀ g, z0.ownBlock = some g ∨ z1.ownBlock = some g → (y 0).ownBlock = some g ∨ (y 1).ownBlock = some g ∨ w.heap.size ≤ g := fun g hg => by
  rcases an.fr g hg with e | e | e
  · exact .inl e
  · exact .inr (.inl e)
  · exact .inr (.inr (by omega))

end Go.Proofs.Ytfnedohampmnoaa
