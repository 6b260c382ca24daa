/- A network and what was sent, in memory; calls in memory. -/
import Derived.Test.YtfnedohampmnoaaYx
namespace Go.Proofs.Ytfnedohampmnoaa
open Go.RowKit
set_option maxRecDepth 100000

theorem block_lt_of_cell {w : World} {a : Addr} {v : Value} (h : w.cell? a = some v) : a.block < w.heap.size := World.block_lt_of_cell? w a h

/- a call, in memory: its six cells -/
structure A6 (w : World) (g o : Nat) (kd q i k : Int) (s : ByteArray) (b : Nat) : Prop where
  c0 : w.cell? ⟨g, o, none⟩ = some (.int .i64 kd)
  c1 : w.cell? ⟨g, o + 1, none⟩ = some (.int .i64 q)
  c2 : w.cell? ⟨g, o + 2, none⟩ = some (.int .i64 i)
  c3 : w.cell? ⟨g, o + 3, none⟩ = some (.int .i64 k)
  c4 : w.cell? ⟨g, o + 4, none⟩ = some (.string s)
  c5 : w.cell? ⟨g, o + 5, none⟩ = some (.int .u8 (b : Int))
def Ac (w : World) (m : Nat) (a : Option Addr) : Prop := ∀ j, j < m → ∃ g o kd q i k s b, a = some ⟨g, o, none⟩ ∧ b < 256 ∧ A6 w g (o + j * 6) kd q i k s b
theorem A6.same {w w' : World} {g o : Nat} {kd q i k : Int} {s : ByteArray} {b : Nat} (h : A6 w g o kd q i k s b) (hs : w'.heap[g]? = w.heap[g]?) : A6 w' g o kd q i k s b :=
  ⟨(World.cell?_of_block (a := ⟨g, _, none⟩) hs).trans h.c0, (World.cell?_of_block (a := ⟨g, _, none⟩) hs).trans h.c1, (World.cell?_of_block (a := ⟨g, _, none⟩) hs).trans h.c2, (World.cell?_of_block (a := ⟨g, _, none⟩) hs).trans h.c3, (World.cell?_of_block (a := ⟨g, _, none⟩) hs).trans h.c4, (World.cell?_of_block (a := ⟨g, _, none⟩) hs).trans h.c5⟩
theorem Ac.next {w w' : World} {m : Nat} {a : Option Addr} (h : Ac w m a) (hb : Below w.heap.size w w') : Ac w' m a := fun j hj => by
  obtain ⟨g, o, kd, q, i, k, s, b, e, hb', h6⟩ := h j hj
  exact ⟨g, o, kd, q, i, k, s, b, e, hb', h6.same (hb.block g (block_lt_of_cell h6.c0))⟩

/- the network at t; what was sent at r, in an object of two lists -/
structure Tr (B t r : Nat) (ty : TypeId) (x y : Nat → Value) (N M : Nat → List ByteArray) (w : World) : Prop where
  net : Nw B t x N w
  row : w.heap[r]? = some (.cells #[y 0, y 1] ty (0, 0))
  own : ∀ k, k < 2 → Lst B w (y k) (M k)
  yr : ∀ k, k < 2 → (y k).ownBlock ≠ some r
  yt : ∀ k, k < 2 → (y k).ownBlock ≠ some t
  xr : ∀ k, k < 2 → (x k).ownBlock ≠ some r
  xy : ∀ j, j < 2 → ∀ k, k < 2 → ∀ g, (x j).ownBlock = some g → (y k).ownBlock ≠ some g
  tr : t ≠ r
  low : B ≤ r
/- the two lists of what was sent lie apart -/
def Apt (y : Nat → Value) : Prop := ∀ g, (y 0).ownBlock = some g → (y 1).ownBlock ≠ some g

/- behind a call on the network -/
theorem Tr.called {B t r : Nat} {ty : TypeId} {x y x' : Nat → Value} {N M N' : Nat → List ByteArray} {w w' : World} (h : Tr B t r ty x y N M w) (hn : Nw B t x' N' w') (hm : Mv t x x' w w') : Tr B t r ty x' y N' M w' := by
  have hrl := lt_heap h.row
  refine ⟨hn, (hm.kept r hrl (fun e => h.tr e.symm) h.xr).trans h.row, fun k hk => (h.own k hk).same fun g hg => ?_, h.yr, h.yt, fun k hk e => ?_, fun j hj k hk g hg e => ?_, h.tr, h.low⟩
  · exact hm.kept g ((h.own k hk).lt hg).2 (fun e => h.yt k hk (e ▸ hg)) (fun j hj e => h.xy j hj k hk g e hg)
  · rcases hm.fresh k hk r e with ⟨j, hj, h1⟩ | h1
    · exact h.xr j hj h1
    · omega
  · rcases hm.fresh j hj g hg with ⟨j', hj', h1⟩ | h1
    · exact h.xy j' hj' k hk g h1 e
    · have := ((h.own k hk).lt e).2
      omega
theorem Tr.below {B t r : Nat} {ty : TypeId} {x y : Nat → Value} {N M : Nat → List ByteArray} {w w' : World} (h : Tr B t r ty x y N M w) (hb : Below w.heap.size w w') : Tr B t r ty x y N M w' :=
  h.called (h.net.below hb (Nat.le_refl _)) (Mv.ofBelow hb)

/- what was sent is more now -/
theorem Tr.sent {B t r k : Nat} {ty : TypeId} {x y : Nat → Value} {N M : Nat → List ByteArray} {w W2 W3 : World} {v' : Value} {A : List ByteArray} (h : Tr B t r ty x y N M w) (ha : Apt y) (hk : k < 2) (hb : Below w.heap.size w W2) (hg : W2.grownBy W3 (y k).ownBlock)
    (ho : Lst B W3 v' A) (hf : ∀ g, v'.ownBlock = some g → (y k).ownBlock = some g ∨ W2.heap.size ≤ g) :
    (W3.frozen? ⟨r, k, none⟩ = false ∧ W3.cell? ⟨r, k, none⟩ = some (y k)) ∧ Tr B t r ty x (upd y k v') N (upd M k A) (W3.setCell ⟨r, k, none⟩ v') ∧ Apt (upd y k v') ∧ ∀ g, g < w.heap.size → g ≠ r → (y k).ownBlock ≠ some g → (W3.setCell ⟨r, k, none⟩ v').heap[g]? = w.heap[g]? := by
  have hrl := lt_heap h.row
  have htl := lt_heap h.net.row
  have hs2 := hb.size
  have hr3 : W3.heap[r]? = some (.cells #[y 0, y 1] ty (0, 0)) := (hg.block r (by omega) (fun e => h.yr k hk e.symm)).trans ((hb.block r hrl).trans h.row)
  have hso : ∀ g, g ≠ r → (W3.setCell ⟨r, k, none⟩ v').heap[g]? = W3.heap[g]? := fun g hgt => heap_setCell_other _ _ _ _ hgt
  have hkp : ∀ g, g < w.heap.size → g ≠ r → (y k).ownBlock ≠ some g → (W3.setCell ⟨r, k, none⟩ v').heap[g]? = w.heap[g]? := fun g hgl hgr hgy => by
    rw [hso g hgr, hg.block g (by omega) (fun e => hgy e.symm), hb.block g hgl]
  have hfy : ∀ g, g < w.heap.size → (y k).ownBlock ≠ some g → v'.ownBlock ≠ some g := fun g hgl hgy e => by
    rcases hf g e with h1 | h1
    · exact hgy h1
    · omega
  have hne : ∀ j, j < 2 → j ≠ k → ∀ g, (y j).ownBlock = some g → (y k).ownBlock ≠ some g := fun j hj hjk g hgj e => by
    rcases (show (j = 0 ∧ k = 1) ∨ (j = 1 ∧ k = 0) by omega) with ⟨rfl, rfl⟩ | ⟨rfl, rfl⟩
    · exact ha g hgj e
    · exact ha g e hgj
  refine ⟨⟨frozen_of_row W3 r k _ _ hr3, ?_⟩, ⟨⟨?_, fun j hj => ?_, h.net.ne, h.net.nt, h.net.low⟩, ?_, fun j hj => ?_, fun j hj => ?_, fun j hj => ?_, h.xr, fun i hi j hj g hgx => ?_, h.tr, h.low⟩, fun g h0 h1 => ?_, hkp⟩
  · rw [cell_of_row W3 r k _ _ _ hr3]
    rcases (show k = 0 ∨ k = 1 by omega) with rfl | rfl <;> rfl
  · rw [hkp t htl h.tr (h.yt k hk)]
    exact h.net.row
  · exact (h.net.own j hj).same fun g hgx => hkp g ((h.net.own j hj).lt hgx).2 (fun e => h.xr j hj (e ▸ hgx)) (h.xy j hj k hk g hgx)
  · rw [heap_setCell_same _ r k _ _ _ hr3]
    rcases (show k = 0 ∨ k = 1 by omega) with rfl | rfl <;> rfl
  · by_cases hjk : j = k
    · subst hjk
      rw [upd_same, upd_same]
      refine ho.same fun g hgv => hso g (fun e => ?_)
      exact hfy r hrl (h.yr j hj) (e ▸ hgv)
    · rw [upd_other _ _ hjk, upd_other _ _ hjk]
      exact (h.own j hj).same fun g hgy => hkp g ((h.own j hj).lt hgy).2 (fun e => h.yr j hj (e ▸ hgy)) (hne j hj hjk g hgy)
  · by_cases hjk : j = k
    · subst hjk; rw [upd_same]; exact hfy r hrl (h.yr j hj)
    · rw [upd_other _ _ hjk]; exact h.yr j hj
  · by_cases hjk : j = k
    · subst hjk; rw [upd_same]; exact hfy t htl (h.yt j hj)
    · rw [upd_other _ _ hjk]; exact h.yt j hj
  · by_cases hjk : j = k
    · subst hjk; rw [upd_same]; exact hfy g ((h.net.own i hi).lt hgx).2 (h.xy i hi j hj g hgx)
    · rw [upd_other _ _ hjk]; exact h.xy i hi j hj g hgx
  · rcases (show k = 0 ∨ k = 1 by omega) with rfl | rfl
    · rw [upd_same] at h0
      rw [upd_other _ _ (by omega)] at h1
      exact hfy g ((h.own 1 (by omega)).lt h1).2 (hne 1 (by omega) (by omega) g h1) h0
    · rw [upd_same] at h1
      rw [upd_other _ _ (by omega)] at h0
      exact hfy g ((h.own 0 (by omega)).lt h0).2 (hne 0 (by omega) (by omega) g h0) h1

/- all that is on its way was sent -/
def Sub (N M : Nat → List ByteArray) : Prop := ∀ k s, s ∈ N k → s ∈ M k
theorem Sub.upd {N M : Nat → List ByteArray} (h : Sub N M) (k : Nat) {A : List ByteArray} (hA : ∀ s ∈ A, s ∈ N k) : Sub (upd N k A) M := fun j s hs => by
  by_cases hj : j = k
  · subst hj
    rw [upd_same] at hs
    exact h _ _ (hA s hs)
  · rw [upd_other _ _ hj] at hs
    exact h _ _ hs
theorem Sub.snd {N M : Nat → List ByteArray} (h : Sub N M) (k : Nat) (s : ByteArray) : Sub (sndN N (k : Int) s) (Ytfnedohampmnoaa.upd M k (M k ++ [s])) := fun j s' hs' => by
  have hN : s' ∈ N j ∨ (j = k ∧ s' = s) := by
    unfold sndN at hs'
    split at hs'
    · rw [Int.toNat_natCast] at hs'
      by_cases hj : j = k
      · subst hj
        rw [upd_same] at hs'
        rcases List.mem_append.1 hs' with h1 | h1
        · exact .inl h1
        · simp at h1; exact .inr ⟨rfl, h1⟩
      · rw [upd_other _ _ hj] at hs'
        exact .inl hs'
    · exact .inl hs'
  by_cases hj : j = k
  · subst hj
    rw [upd_same]
    rcases hN with h1 | ⟨_, rfl⟩
    · exact List.mem_append_left _ (h _ _ h1)
    · simp
  · rw [upd_other _ _ hj]
    rcases hN with h1 | ⟨h1, _⟩
    · exact h _ _ h1
    · exact absurd h1 hj
theorem Sub.tak {N M : Nat → List ByteArray} (h : Sub N M) (q i : Int) : Sub (takN N q i) M := by
  unfold takN
  split
  · exact h.upd _ fun s hs => List.mem_of_mem_eraseIdx hs
  · exact h
theorem Sub.dbl {N M : Nat → List ByteArray} (h : Sub N M) (q i : Int) : Sub (dblN N q i) M := by
  unfold dblN
  split
  · rename_i hc
    obtain ⟨k, j, rfl, rfl, hk, hj⟩ := plc_ok hc
    unfold sndN
    split
    · simp only [Int.toNat_natCast]
      refine h.upd _ fun s hs => ?_
      rcases List.mem_append.1 hs with h1 | h1
      · exact h1
      · simp only [List.mem_singleton] at h1
        rw [h1]
        exact getD_mem hj
    · exact h
  · exact h
theorem Sub.swp {N M : Nat → List ByteArray} (h : Sub N M) (q i j : Int) : Sub (swpN N q i j) M := by
  unfold swpN
  split
  · rename_i hc
    have h0 : plc N q i = 0 := by
      by_cases h0 : plc N q i = 0
      · exact h0
      · rw [swpC, if_neg h0] at hc
        exact absurd hc h0
    have h1 : plc N q j = 0 := by
      rw [swpC, if_pos h0] at hc
      exact hc
    obtain ⟨k, i, rfl, rfl, hk, hi⟩ := plc_ok h0
    obtain ⟨k', j, e, rfl, _, hj⟩ := plc_ok h1
    obtain rfl : k' = k := by omega
    simp only [Int.toNat_natCast]
    refine h.upd _ fun s hs => ?_
    rcases mem_set hs with h2 | rfl
    · rcases mem_set h2 with h3 | rfl
      · exact h3
      · exact getD_mem hj
    · exact getD_mem hi
  · exact h
theorem takS_mem {N : Nat → List ByteArray} {k : Nat} {i : Int} (hc : plc N (k : Int) i = 0) : takS N (k : Int) i ∈ N k := by
  unfold takS
  rw [if_pos hc]
  obtain ⟨k', j, e, rfl, hk, hj⟩ := plc_ok hc
  obtain rfl : k' = k := by omega
  exact getD_mem hj

end Go.Proofs.Ytfnedohampmnoaa
