/- Bits made word by word, and what is behind the last one cleared. -/
import Derived.Test.YtpigbhmamaghgaaMPgVCPgVD
namespace Go.Proofs.Ytpigbhmamaghgaa.Pg.V
open Go.RowKit
set_option maxRecDepth 100000
attribute [local go_sem] not_any mf_any

theorem mask_and {x j : Nat} (hx : x < 18446744073709551616) (hj : j < 64) : bits .and .u64 (x : Int) (2 ^ j - 1) = ((x &&& (2 ^ j - 1) : Nat) : Int) := by
  have h1 := pow_lt hj
  have h2 := Nat.two_pow_pos j
  rw [show ((2 : Int) ^ j - 1) = ((2 ^ j - 1 : Nat) : Int) by rw [pow_cast]; omega, u64_and_nat _ _ hx (by omega)]

/- words in a block from b on: any, not yet cleared behind the last bit -/
structure Wr (b : Nat) (w : World) (n : Nat) (a : Option Addr) (ws : List Nat) : Prop where
  len : ws.length = need n 64
  lt : ∀ (k : Nat) (x : Nat), ws[k]? = some x → x < 18446744073709551616
  at' : (n = 0 ∧ a = none) ∨ ∃ g, a = some ⟨g, 0, none⟩ ∧ b ≤ g ∧ w.heap[g]? = some (wrow ws)

theorem Vc.wr {b : Nat} {w : World} {n : Nat} {a : Option Addr} {l : List Bool} (h : Vc b w n a l) : Wr b w n a (chunks 64 l) :=
  ⟨by rw [chunks_length, h.len], fun k x hx => by rw [(chunks_get' hx).2]; exact chunk64_lt _ _, h.at'⟩

theorem Wr.vc {b : Nat} {w : World} {n : Nat} {a : Option Addr} {l : List Bool} (h : Wr b w n a (chunks 64 l)) (hl : l.length = n) : Vc b w n a l := ⟨hl, h.at'⟩

theorem Wr.block {b : Nat} {w : World} {n j : Nat} {a : Option Addr} {ws : List Nat} (h : Wr b w n a ws) (hj : j < need n 64) : ∃ g, a = some ⟨g, 0, none⟩ ∧ b ≤ g ∧ w.heap[g]? = some (wrow ws) := by
  obtain ⟨_, _, h | h⟩ := h
  · obtain ⟨rfl, _⟩ := h
    simp [need64] at hj
  · exact h

theorem Wr.kept {b : Nat} {w w' : World} {n : Nat} {a : Option Addr} {ws : List Nat} (h : Wr b w n a ws) (hk : ∀ g, a = some ⟨g, 0, none⟩ → w'.heap[g]? = w.heap[g]?) : Wr b w' n a ws := by
  obtain ⟨h1, h2, h | ⟨g, h3, h4, h5⟩⟩ := h
  · exact ⟨h1, h2, .inl h⟩
  · exact ⟨h1, h2, .inr ⟨g, h3, h4, (hk g h3).trans h5⟩⟩

theorem Vc.kept {b : Nat} {w w' : World} {n : Nat} {a : Option Addr} {l : List Bool} (h : Vc b w n a l) (hk : ∀ g, a = some ⟨g, 0, none⟩ → w'.heap[g]? = w.heap[g]?) : Vc b w' n a l := by
  obtain ⟨h1, h | ⟨g, h3, h4, h5⟩⟩ := h
  · exact ⟨h1, .inl h⟩
  · exact ⟨h1, .inr ⟨g, h3, h4, (hk g h3).trans h5⟩⟩

theorem Wr.below {b B : Nat} {w w' : World} {n : Nat} {a : Option Addr} {ws : List Nat} (h : Wr b w n a ws) (hB : Below B w w') (hs : w.heap.size ≤ B) : Wr b w' n a ws := by
  obtain ⟨h1, h2, h | ⟨g, h3, h4, h5⟩⟩ := h
  · exact ⟨h1, h2, .inl h⟩
  · exact ⟨h1, h2, .inr ⟨g, h3, h4, (hB.block g (by have := lt_heap h5; omega)).trans h5⟩⟩

theorem Wr.alloc {b : Nat} {w : World} {n : Nat} {a : Option Addr} {ws : List Nat} (h : Wr b w n a ws) (o : Obj) : Wr b (w.alloc o) n a ws :=
  h.below (B := w.heap.size) ((Below.refl _ _).alloc (Nat.le_refl _) _) (Nat.le_refl _)

theorem Wr.blk {b : Nat} {w : World} {n : Nat} {a : Option Addr} {ws : List Nat} (h : Wr b w n a ws) : ∀ k, blk a = some k → b ≤ k ∧ k < w.heap.size := by
  intro k hk
  obtain ⟨_, _, h | ⟨g, h1, h2, h3⟩⟩ := h
  · rw [h.2] at hk; cases hk
  · rw [h1] at hk
    cases hk
    exact ⟨h2, lt_heap h3⟩

theorem Wr.set {b : Nat} {w : World} {n g k x : Nat} {ws : List Nat} (h : Wr b w n (some ⟨g, 0, none⟩) ws) (hx : x < 18446744073709551616) : Wr b (w.setCell ⟨g, k, none⟩ (.int .u64 (x : Int))) n (some ⟨g, 0, none⟩) (ws.set k x) := by
  obtain ⟨h1, h2, h | ⟨g', h3, h4, h5⟩⟩ := h
  · cases h.2
  · cases h3
    refine ⟨by simpa using h1, fun j y hy => ?_, .inr ⟨g, rfl, h4, wset h5⟩⟩
    rw [List.getElem?_set] at hy
    split at hy
    · split at hy
      · cases hy; exact hx
      · cases hy
    · exact h2 j y hy

end Go.Proofs.Ytpigbhmamaghgaa.Pg.V
