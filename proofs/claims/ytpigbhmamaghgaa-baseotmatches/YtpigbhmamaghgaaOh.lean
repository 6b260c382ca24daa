/- The document's Direction. -/
import Derived.Test.YtpigbhmamaghgaaOg
namespace Go.Proofs.Ytpigbhmamaghgaa
open Go.RowKit Pg
set_option maxRecDepth 100000
attribute [local go_sem] not_any

theorem wd_words2 (kl : List Nat) (w : World) (hk : kl.length = 32) (bk : Lt 256 kl) : Calls Try.prog 31 #[.agg (u8s kl).toArray, .int .u32 9, .int .i64 0, .int .i64 2] w (WPost w [wd kl 9 0, wd kl 9 1] 0) := by
  have ew : wrd kl 9 0 2 = [wd kl 9 0, wd kl 9 1] := by simp [wrd, List.range_succ]
  rw [← ew]
  exact rwords_yes kl 9 0 2 w hk bk (by omega) (by omega) (by omega)
theorem infoS : (Try.prog.info? 23).map (fun i => (i.zero, i.size, i.bytes)) = some (some (arr8 (zeros 32)), 32, 32) := by kernel_rfl

theorem own_keep {w w' : World} {base e size n : Nat} {v : Value} {xs : List Value} (h : w.ownsRow base e size v n xs) (hk : ∀ g, v.ownBlock = some g → w'.heap[g]? = w.heap[g]?) : w'.ownsRow base e size v n xs := by
  obtain ⟨h1, h2 | ⟨g, cap, cur, rfl, h4, h5, h6⟩⟩ := h
  · exact ⟨h1, .inl h2⟩
  · exact ⟨h1, .inr ⟨g, cap, cur, rfl, h4, (hk g rfl).trans h5, h6⟩⟩
theorem own_lt {w : World} {base e size n : Nat} {v : Value} {xs : List Value} (h : w.ownsRow base e size v n xs) {g : Nat} (hg : v.ownBlock = some g) : base ≤ g ∧ g < w.heap.size := by
  obtain ⟨h1, ⟨rfl, _⟩ | ⟨g', cap, cur, rfl, h4, h5, h6⟩⟩ := h
  · cases hg
  · cases hg
    exact ⟨h4, lt_heap h5⟩
theorem own_sds {w : World} {base n : Nat} {v : Value} {f : Nat → List Nat} (hf : ∀ i, (f i).length = 32) (hn : 0 < n) (h : w.ownsRow base 23 32 v n (u8s (flt f n))) : Sds w v f n := by
  obtain ⟨h1, ⟨_, h0⟩ | ⟨g, cap, cur, rfl, h4, h5, h6, h7, h8, h9⟩⟩ := h
  · omega
  · refine ⟨g, cap, rfl, lt_heap h5, fun i hi j u hu => ?_⟩
    have hj : j < 32 := by have := (List.getElem?_eq_some_iff.1 hu).1; rwa [u8s_length, hf] at this
    rw [cell_of_row w g _ _ _ _ h5, ← Array.getElem?_toList, ← List.getElem?_take_of_lt (show i * 32 + j < n * 32 by omega), h9]
    unfold u8s at hu ⊢
    rw [List.getElem?_map] at hu ⊢
    rw [flt_get hf hi hj]
    exact hu

/- a list of one seed -/
theorem list32 {l : List Nat} (h : l.length = 32) : ∃ a0 a1 a2 a3 a4 a5 a6 a7 a8 a9 b0 b1 b2 b3 b4 b5 b6 b7 b8 b9 c0 c1 c2 c3 c4 c5 c6 c7 c8 c9 d0 d1 : Nat, l = [a0, a1, a2, a3, a4, a5, a6, a7, a8, a9, b0, b1, b2, b3, b4, b5, b6, b7, b8, b9, c0, c1, c2, c3, c4, c5, c6, c7, c8, c9, d0, d1] := by
  match l, h with
  | [a0, a1, a2, a3, a4, a5, a6, a7, a8, a9, b0, b1, b2, b3, b4, b5, b6, b7, b8, b9, c0, c1, c2, c3, c4, c5, c6, c7, c8, c9, d0, d1], _ => exact ⟨_, _, _, _, _, _, _, _, _, _, _, _, _, _, _, _, _, _, _, _, _, _, _, _, _, _, _, _, _, _, _, _, rfl⟩

theorem run_build_seed (s : List Nat) (hl : s.length = 32) (w : World) : (Instr.buildSlice 27 1 #[(0, .agg (u8s s).toArray)]).run Try.prog w = .ok (.slice (some ⟨w.heap.size, 0, none⟩) 1 1) (w.alloc (row8 23 s)) := by
  obtain ⟨a0, a1, a2, a3, a4, a5, a6, a7, a8, a9, b0, b1, b2, b3, b4, b5, b6, b7, b8, b9, c0, c1, c2, c3, c4, c5, c6, c7, c8, c9, d0, d1, rfl⟩ := list32 hl
  kernel_rfl

/- what lies in memory while the document makes a direction -/
structure Rd (kl : List Nat) (d0 d1 B gd nz no nk : Nat) (vz vo vk : Value) (fz fo fk : Nat → List Nat) (w0 w : World) : Prop where
  seed : w.heap[B]? = some (row8 23 kl)
  r2 : w.heap[B + 1]? = some (.cells #[.int .u64 0, .int .u64 0, .slice none 0 0, .slice none 0 0, .slice none 0 0] 37 (0, 0))
  box : w.heap[gd]? = some (.cells #[.int .u64 (d0 : Int), .int .u64 (d1 : Int), vz, vo, vk] 37 (0, 0))
  oz : w.ownsRow (gd + 1) 23 32 vz nz (u8s (flt fz nz))
  oo : w.ownsRow (gd + 1) 23 32 vo no (u8s (flt fo no))
  ok : w.ownsRow (gd + 1) 23 32 vk nk (u8s (flt fk nk))
  a1 : ∀ g, vz.ownBlock = some g → vo.ownBlock = some g → False
  a2 : ∀ g, vz.ownBlock = some g → vk.ownBlock = some g → False
  a3 : ∀ g, vo.ownBlock = some g → vk.ownBlock = some g → False
  lt : B + 1 < gd
  bel : Below B w0 w
section
variable {kl : List Nat} {d0 d1 B gd nz no nk : Nat} {vz vo vk : Value} {fz fo fk : Nat → List Nat} {w0 w w' w8 : World}
theorem Rd.to (h : Rd kl d0 d1 B gd nz no nk vz vo vk fz fo fk w0 w) (hb : Below w.heap.size w w') : Rd kl d0 d1 B gd nz no nk vz vo vk fz fo fk w0 w' :=
  have q : ∀ {g : Nat} {o : Obj}, w.heap[g]? = some o → w'.heap[g]? = some o := fun hg => (hb.block _ (lt_heap hg)).trans hg
  ⟨q h.seed, q h.r2, q h.box, own_below h.oz hb, own_below h.oo hb, own_below h.ok hb, h.a1, h.a2, h.a3, h.lt, h.bel.trans (hb.mono (Nat.le_of_lt (lt_heap h.seed)))⟩
theorem Rd.c0 (h : Rd kl d0 d1 B gd nz no nk vz vo vk fz fo fk w0 w) : w.rangeAt gd 0 [.int .u64 (d0 : Int), .int .u64 (d1 : Int)] := fun j v hv => by
  rw [Nat.zero_add, cell_of_row w gd j _ _ _ h.box]
  match j with
  | 0 => cases hv; rfl
  | 1 => cases hv; rfl
  | j + 2 => simp at hv
theorem Rd.c2 (h : Rd kl d0 d1 B gd nz no nk vz vo vk fz fo fk w0 w) : w.cell? ⟨gd, 2, none⟩ = some vz := by rw [cell_of_row w gd 2 _ _ _ h.box]; rfl
theorem Rd.c3 (h : Rd kl d0 d1 B gd nz no nk vz vo vk fz fo fk w0 w) : w.cell? ⟨gd, 3, none⟩ = some vo := by rw [cell_of_row w gd 3 _ _ _ h.box]; rfl
theorem Rd.c4 (h : Rd kl d0 d1 B gd nz no nk vz vo vk fz fo fk w0 w) : w.cell? ⟨gd, 4, none⟩ = some vk := by rw [cell_of_row w gd 4 _ _ _ h.box]; rfl
/- behind an append to a row of the call's own: all below gd stays -/
theorem Rd.low (h : Rd kl d0 d1 B gd nz no nk vz vo vk fz fo fk w0 w) {v : Value} {n : Nat} {xs : List Value} (hv : w.ownsRow (gd + 1) 23 32 v n xs) (gr : w.grownBy w8 v.ownBlock) {g : Nat} (hg : g ≤ gd) : w8.heap[g]? = w.heap[g]? := by
  refine gr.block g (Nat.lt_of_le_of_lt hg (lt_heap h.box)) (fun e => ?_)
  have := (own_lt hv (show v.ownBlock = some g from e.symm)).1
  omega
theorem box_set {g : Nat} {a b c d e x : Value} {t : TypeId} (h : w.heap[g]? = some (.cells #[a, b, c, d, e] t (0, 0))) : (w.setCell ⟨g, 2, none⟩ x).heap[g]? = some (.cells #[a, b, x, d, e] t (0, 0)) ∧ (w.setCell ⟨g, 3, none⟩ x).heap[g]? = some (.cells #[a, b, c, x, e] t (0, 0)) ∧ (w.setCell ⟨g, 4, none⟩ x).heap[g]? = some (.cells #[a, b, c, d, x] t (0, 0)) :=
  ⟨by rw [heap_setCell_same w g 2 _ t x h]; rfl, by rw [heap_setCell_same w g 3 _ t x h]; rfl, by rw [heap_setCell_same w g 4 _ t x h]; rfl⟩
theorem new_apart {v u : Value} {g m : Nat} {ys : List Value} (hu : w.ownsRow (gd + 1) 23 32 u m ys) (ha : ∀ g, v.ownBlock = some g → u.ownBlock = some g → False) (wh : v.ownBlock = some g ∨ g = w.heap.size) : u.ownBlock = some g → False := fun hg => by
  rcases wh with h | h
  · exact ha g h hg
  · have := (own_lt hu hg).2
    omega
theorem own_set {v x : Value} {n o : Nat} {xs : List Value} (h : w.ownsRow (gd + 1) 23 32 v n xs) : (w.setCell ⟨gd, o, none⟩ x).ownsRow (gd + 1) 23 32 v n xs :=
  own_keep h (fun g hg => heap_setCell_other _ _ _ _ (by have := (own_lt h hg).1; simp; omega))
theorem kept_row {v u : Value} {m : Nat} {ys : List Value} (hu : w.ownsRow (gd + 1) 23 32 u m ys) (gr : w.grownBy w8 v.ownBlock) (ha : ∀ g, v.ownBlock = some g → u.ownBlock = some g → False) : w8.ownsRow (gd + 1) 23 32 u m ys :=
  own_keep hu (fun g hg => gr.block g (own_lt hu hg).2 (fun e => ha g e.symm hg))
theorem Rd.addZ (h : Rd kl d0 d1 B gd nz no nk vz vo vk fz fo fk w0 w) {s : List Nat} {g cap : Nat} (ro : w8.ownsRow (gd + 1) 23 32 (.slice (some ⟨g, 0, none⟩) (nz + 1) cap) (nz + 1) (u8s (flt fz nz) ++ u8s s)) (gr : w.grownBy w8 vz.ownBlock) (wh : vz.ownBlock = some g ∨ g = w.heap.size) (hs : s = fz nz) :
    Rd kl d0 d1 B gd (nz + 1) no nk (.slice (some ⟨g, 0, none⟩) (nz + 1) cap) vo vk fz fo fk w0 (w8.setCell ⟨gd, 2, none⟩ (.slice (some ⟨g, 0, none⟩) (nz + 1) cap)) := by
  have hlt := h.lt
  have q : ∀ {k : Nat} {o : Obj}, k < gd → w.heap[k]? = some o → (w8.setCell ⟨gd, 2, none⟩ (.slice (some ⟨g, 0, none⟩) (nz + 1) cap)).heap[k]? = some o := fun hk ho => (heap_setCell_other _ _ _ _ (by simp; omega)).trans ((h.low h.oz gr (by omega)).trans ho)
  rw [hs, ← u8s_append] at ro
  refine ⟨q (by omega) h.seed, q hlt h.r2, (box_set ((h.low h.oz gr (Nat.le_refl _)).trans h.box)).1, own_set ro, own_set (kept_row h.oo gr h.a1), own_set (kept_row h.ok gr h.a2), fun k hk => ?_, fun k hk => ?_, h.a3, hlt, ?_⟩
  · cases hk; exact new_apart h.oo h.a1 wh
  · cases hk; exact new_apart h.ok h.a2 wh
  · exact (h.bel.grown gr (Nat.le_of_lt (lt_heap h.seed)) (fun k hk => by have := (own_lt h.oz hk).1; omega)).setCell (by simp; omega) _
theorem Rd.addO (h : Rd kl d0 d1 B gd nz no nk vz vo vk fz fo fk w0 w) {s : List Nat} {g cap : Nat} (ro : w8.ownsRow (gd + 1) 23 32 (.slice (some ⟨g, 0, none⟩) (no + 1) cap) (no + 1) (u8s (flt fo no) ++ u8s s)) (gr : w.grownBy w8 vo.ownBlock) (wh : vo.ownBlock = some g ∨ g = w.heap.size) (hs : s = fo no) :
    Rd kl d0 d1 B gd nz (no + 1) nk vz (.slice (some ⟨g, 0, none⟩) (no + 1) cap) vk fz fo fk w0 (w8.setCell ⟨gd, 3, none⟩ (.slice (some ⟨g, 0, none⟩) (no + 1) cap)) := by
  have hlt := h.lt
  have q : ∀ {k : Nat} {o : Obj}, k < gd → w.heap[k]? = some o → (w8.setCell ⟨gd, 3, none⟩ (.slice (some ⟨g, 0, none⟩) (no + 1) cap)).heap[k]? = some o := fun hk ho => (heap_setCell_other _ _ _ _ (by simp; omega)).trans ((h.low h.oo gr (by omega)).trans ho)
  have b1 : ∀ g, vo.ownBlock = some g → vz.ownBlock = some g → False := fun g h1 h2 => h.a1 g h2 h1
  rw [hs, ← u8s_append] at ro
  refine ⟨q (by omega) h.seed, q hlt h.r2, (box_set ((h.low h.oo gr (Nat.le_refl _)).trans h.box)).2.1, own_set (kept_row h.oz gr b1), own_set ro, own_set (kept_row h.ok gr h.a3), fun k h1 hk => ?_, h.a2, fun k hk => ?_, hlt, ?_⟩
  · cases hk; exact new_apart h.oz b1 wh h1
  · cases hk; exact new_apart h.ok h.a3 wh
  · exact (h.bel.grown gr (Nat.le_of_lt (lt_heap h.seed)) (fun k hk => by have := (own_lt h.oo hk).1; omega)).setCell (by simp; omega) _
theorem Rd.addK (h : Rd kl d0 d1 B gd nz no nk vz vo vk fz fo fk w0 w) {s : List Nat} {g cap : Nat} (ro : w8.ownsRow (gd + 1) 23 32 (.slice (some ⟨g, 0, none⟩) (nk + 1) cap) (nk + 1) (u8s (flt fk nk) ++ u8s s)) (gr : w.grownBy w8 vk.ownBlock) (wh : vk.ownBlock = some g ∨ g = w.heap.size) (hs : s = fk nk) :
    Rd kl d0 d1 B gd nz no (nk + 1) vz vo (.slice (some ⟨g, 0, none⟩) (nk + 1) cap) fz fo fk w0 (w8.setCell ⟨gd, 4, none⟩ (.slice (some ⟨g, 0, none⟩) (nk + 1) cap)) := by
  have hlt := h.lt
  have q : ∀ {k : Nat} {o : Obj}, k < gd → w.heap[k]? = some o → (w8.setCell ⟨gd, 4, none⟩ (.slice (some ⟨g, 0, none⟩) (nk + 1) cap)).heap[k]? = some o := fun hk ho => (heap_setCell_other _ _ _ _ (by simp; omega)).trans ((h.low h.ok gr (by omega)).trans ho)
  have b2 : ∀ g, vk.ownBlock = some g → vz.ownBlock = some g → False := fun g h1 h2 => h.a2 g h2 h1
  have b3 : ∀ g, vk.ownBlock = some g → vo.ownBlock = some g → False := fun g h1 h2 => h.a3 g h2 h1
  rw [hs, ← u8s_append] at ro
  refine ⟨q (by omega) h.seed, q hlt h.r2, (box_set ((h.low h.ok gr (Nat.le_refl _)).trans h.box)).2.2, own_set (kept_row h.oz gr b2), own_set (kept_row h.oo gr b3), own_set ro, h.a1, fun k h1 hk => ?_, fun k h1 hk => ?_, hlt, ?_⟩
  · cases hk; exact new_apart h.oz b2 wh h1
  · cases hk; exact new_apart h.oo b3 wh h1
  · exact (h.bel.grown gr (Nat.le_of_lt (lt_heap h.seed)) (fun k hk => by have := (own_lt h.ok hk).1; omega)).setCell (by simp; omega) _
theorem Rd.kept (h : Rd kl d0 d1 B gd nz no nk vz vo vk fz fo fk w0 w) {v : Value} {n : Nat} {xs : List Value} (hv : w.ownsRow (gd + 1) 23 32 v n xs) (gr : w.grownBy w8 v.ownBlock) (o : Nat) : w8.cell? ⟨gd, o, none⟩ = w.cell? ⟨gd, o, none⟩ ∧ w8.frozen? ⟨gd, o, none⟩ = false :=
  ⟨World.cell?_of_block (h.low hv gr (Nat.le_refl _)), frozen_of_row w8 gd o _ _ ((h.low hv gr (Nat.le_refl _)).trans h.box)⟩
end
end Go.Proofs.Ytpigbhmamaghgaa
