/- A block folded into the words: fold. Pure: the constants reckoned, as the document's answer reckons them. The document's prime. -/
import Derived.Test.YtlkkninnfiaedaaDoorJ16
import Derived.Deep.RegionWith
import Derived.Deep.Cut
import Derived.Deep.CutBlock
import Derived.Deep.DeepCutAuto
namespace Go.Proofs.YtlkkninnfiaedaaDoor.Sh
open Go.RowKit
set_option maxRecDepth 100000
attribute [local go_sem] not_any

structure Four (w W : World) (A B C D : Obj) : Prop where
  size : W.heap.size = w.heap.size + 1 + 1 + 1 + 1
  a : W.heap[w.heap.size]? = some A
  b : W.heap[w.heap.size + 1]? = some B
  c : W.heap[w.heap.size + 1 + 1]? = some C
  d : W.heap[w.heap.size + 1 + 1 + 1]? = some D
  below : Below w.heap.size w W

theorem four (w : World) (A B C D : Obj) : Four w ((((w.alloc A).alloc B).alloc C).alloc D) A B C D := by
  have h := three w A B C
  refine ⟨by simp, ?_, ?_, ?_, ?_, h.below.alloc (by rw [h.size]; omega) _⟩
  · rw [heap_alloc_old _ _ (by rw [h.size]; omega)]; exact h.a
  · rw [heap_alloc_old _ _ (by rw [h.size]; omega)]; exact h.b
  · rw [heap_alloc_old _ _ (by rw [h.size]; omega)]; exact h.c
  · have := heap_alloc_new (((w.alloc A).alloc B).alloc C) D
    rw [h.size] at this
    exact this

theorem list8 (l : List Nat) (h : l.length = 8) : ∃ a b c d e f g i, l = [a, b, c, d, e, f, g, i] := by
  match l, h with
  | [a, b, c, d, e, f, g, i], _ => exact ⟨a, b, c, d, e, f, g, i, rfl⟩
theorem list16 (l : List Nat) (h : l.length = 16) : ∃ a b c d e f g i j k m n o p q r, l = [a, b, c, d, e, f, g, i, j, k, m, n, o, p, q, r] := by
  match l, h with
  | [a, b, c, d, e, f, g, i, j, k, m, n, o, p, q, r], _ => exact ⟨a, b, c, d, e, f, g, i, j, k, m, n, o, p, q, r, rfl⟩

/- the first k told anew -/
def told (f : Nat → Nat) (l : List Nat) (k : Nat) : List Nat := (List.range l.length).map (fun i => if i < k then f i else at0 l i)
theorem told_length (f : Nat → Nat) (l : List Nat) (k : Nat) : (told f l k).length = l.length := by simp [told]
theorem told_zero (f : Nat → Nat) (l : List Nat) : told f l 0 = l :=
  at0_ext (by simp [told]) (fun i hi => by rw [told_length] at hi; rw [told, at0_map_range hi]; simp)
theorem at0_told {f : Nat → Nat} {l : List Nat} {k i : Nat} (h : i < l.length) : at0 (told f l k) i = if i < k then f i else at0 l i := at0_map_range h
theorem at0_set {l : List Nat} {i j x : Nat} (h : i < l.length) : at0 (l.set i x) j = if i = j then x else at0 l j := by
  by_cases e : i = j
  · subst e; simp [at0, h]
  · simp [at0, e]
theorem told_succ (f : Nat → Nat) (l : List Nat) {k : Nat} (h : k < l.length) : told f l (k + 1) = (told f l k).set k (f k) := by
  refine at0_ext (by simp [told]) (fun i hi => ?_)
  rw [told_length] at hi
  rw [at0_told hi, at0_set (by rw [told_length]; exact h), at0_told hi]
  by_cases e : k = i
  · subst e; simp
  · have : (i < k + 1) ↔ i < k := by omega
    simp [e, this]
theorem told_all {f : Nat → Nat} {l : List Nat} {n : Nat} (h : l.length = n) : told f l n = (List.range n).map f := by
  rw [told, h]
  apply List.map_congr_left
  intro i hi
  rw [if_pos (List.mem_range.1 hi)]

theorem cells8 {w : World} {g : Nat} {t : TypeId} {l : List Nat} (h : w.heap[g]? = some (row32 t l)) (hl : l.length = 8) :
    (w.cell? ⟨g, 0, none⟩ = some (.int .u32 (at0 l 0 : Nat)) ∧ w.cell? ⟨g, 1, none⟩ = some (.int .u32 (at0 l 1 : Nat)) ∧ w.cell? ⟨g, 2, none⟩ = some (.int .u32 (at0 l 2 : Nat)) ∧ w.cell? ⟨g, 3, none⟩ = some (.int .u32 (at0 l 3 : Nat)) ∧ w.cell? ⟨g, 4, none⟩ = some (.int .u32 (at0 l 4 : Nat)) ∧ w.cell? ⟨g, 5, none⟩ = some (.int .u32 (at0 l 5 : Nat)) ∧ w.cell? ⟨g, 6, none⟩ = some (.int .u32 (at0 l 6 : Nat)) ∧ w.cell? ⟨g, 7, none⟩ = some (.int .u32 (at0 l 7 : Nat))) ∧ w.frozen? ⟨g, 0, none⟩ = false ∧ w.frozen? ⟨g, 1, none⟩ = false ∧ w.frozen? ⟨g, 2, none⟩ = false ∧ w.frozen? ⟨g, 3, none⟩ = false ∧ w.frozen? ⟨g, 4, none⟩ = false ∧ w.frozen? ⟨g, 5, none⟩ = false ∧ w.frozen? ⟨g, 6, none⟩ = false ∧ w.frozen? ⟨g, 7, none⟩ = false :=
  ⟨⟨cell32 h (by omega), cell32 h (by omega), cell32 h (by omega), cell32 h (by omega), cell32 h (by omega), cell32 h (by omega), cell32 h (by omega), cell32 h (by omega)⟩, frozen_of_row w g _ _ _ h, frozen_of_row w g _ _ _ h, frozen_of_row w g _ _ _ h, frozen_of_row w g _ _ _ h, frozen_of_row w g _ _ _ h, frozen_of_row w g _ _ _ h, frozen_of_row w g _ _ _ h, frozen_of_row w g _ _ _ h⟩
theorem cells16 {w : World} {g : Nat} {t : TypeId} {l : List Nat} (h : w.heap[g]? = some (row32 t l)) (hl : l.length = 16) :
    w.cell? ⟨g, 0, none⟩ = some (.int .u32 (at0 l 0 : Nat)) ∧ w.cell? ⟨g, 1, none⟩ = some (.int .u32 (at0 l 1 : Nat)) ∧ w.cell? ⟨g, 2, none⟩ = some (.int .u32 (at0 l 2 : Nat)) ∧ w.cell? ⟨g, 3, none⟩ = some (.int .u32 (at0 l 3 : Nat)) ∧ w.cell? ⟨g, 4, none⟩ = some (.int .u32 (at0 l 4 : Nat)) ∧ w.cell? ⟨g, 5, none⟩ = some (.int .u32 (at0 l 5 : Nat)) ∧ w.cell? ⟨g, 6, none⟩ = some (.int .u32 (at0 l 6 : Nat)) ∧ w.cell? ⟨g, 7, none⟩ = some (.int .u32 (at0 l 7 : Nat)) ∧ w.cell? ⟨g, 8, none⟩ = some (.int .u32 (at0 l 8 : Nat)) ∧ w.cell? ⟨g, 9, none⟩ = some (.int .u32 (at0 l 9 : Nat)) ∧ w.cell? ⟨g, 10, none⟩ = some (.int .u32 (at0 l 10 : Nat)) ∧ w.cell? ⟨g, 11, none⟩ = some (.int .u32 (at0 l 11 : Nat)) ∧ w.cell? ⟨g, 12, none⟩ = some (.int .u32 (at0 l 12 : Nat)) ∧ w.cell? ⟨g, 13, none⟩ = some (.int .u32 (at0 l 13 : Nat)) ∧ w.cell? ⟨g, 14, none⟩ = some (.int .u32 (at0 l 14 : Nat)) ∧ w.cell? ⟨g, 15, none⟩ = some (.int .u32 (at0 l 15 : Nat)) :=
  ⟨cell32 h (by omega), cell32 h (by omega), cell32 h (by omega), cell32 h (by omega), cell32 h (by omega), cell32 h (by omega), cell32 h (by omega), cell32 h (by omega), cell32 h (by omega), cell32 h (by omega), cell32 h (by omega), cell32 h (by omega), cell32 h (by omega), cell32 h (by omega), cell32 h (by omega), cell32 h (by omega)⟩
theorem lit8 {l : List Nat} (h : l.length = 8) : (u32s l).toArray = #[Value.int .u32 (at0 l 0 : Nat), Value.int .u32 (at0 l 1 : Nat), Value.int .u32 (at0 l 2 : Nat), Value.int .u32 (at0 l 3 : Nat), Value.int .u32 (at0 l 4 : Nat), Value.int .u32 (at0 l 5 : Nat), Value.int .u32 (at0 l 6 : Nat), Value.int .u32 (at0 l 7 : Nat)] := by
  obtain ⟨a, b, c, d, e, f, g, i, rfl⟩ := list8 l h
  rfl
theorem lit16 {l : List Nat} (h : l.length = 16) : (u32s l).toArray = #[Value.int .u32 (at0 l 0 : Nat), Value.int .u32 (at0 l 1 : Nat), Value.int .u32 (at0 l 2 : Nat), Value.int .u32 (at0 l 3 : Nat), Value.int .u32 (at0 l 4 : Nat), Value.int .u32 (at0 l 5 : Nat), Value.int .u32 (at0 l 6 : Nat), Value.int .u32 (at0 l 7 : Nat), Value.int .u32 (at0 l 8 : Nat), Value.int .u32 (at0 l 9 : Nat), Value.int .u32 (at0 l 10 : Nat), Value.int .u32 (at0 l 11 : Nat), Value.int .u32 (at0 l 12 : Nat), Value.int .u32 (at0 l 13 : Nat), Value.int .u32 (at0 l 14 : Nat), Value.int .u32 (at0 l 15 : Nat)] := by
  obtain ⟨a, b, c, d, e, f, g, i, j, k, m, n, o, p, q, r, rfl⟩ := list16 l h
  rfl

theorem set_eight {w : World} {g : Nat} {t : TypeId} {l m : List Nat} (h : w.heap[g]? = some (row32 t l)) (hl : l.length = 8) (hm : m.length = 8) :
    ((((((((w.setCell ⟨g, 0, none⟩ (.int .u32 (at0 m 0 : Nat))).setCell ⟨g, 1, none⟩ (.int .u32 (at0 m 1 : Nat))).setCell ⟨g, 2, none⟩ (.int .u32 (at0 m 2 : Nat))).setCell ⟨g, 3, none⟩ (.int .u32 (at0 m 3 : Nat))).setCell ⟨g, 4, none⟩ (.int .u32 (at0 m 4 : Nat))).setCell ⟨g, 5, none⟩ (.int .u32 (at0 m 5 : Nat))).setCell ⟨g, 6, none⟩ (.int .u32 (at0 m 6 : Nat))).setCell ⟨g, 7, none⟩ (.int .u32 (at0 m 7 : Nat))).heap[g]? = some (row32 t m) := by
  rw [set32 (set32 (set32 (set32 (set32 (set32 (set32 (set32 h)))))))]
  obtain ⟨a, b, c, d, e, f, g, i, rfl⟩ := list8 l hl
  obtain ⟨a', b', c', d', e', f', g', i', rfl⟩ := list8 m hm
  rfl
theorem below_eight {w0 w : World} {B g : Nat} {m : List Nat} (h : Below B w0 w) (hB : B ≤ g) :
    Below B w0 ((((((((w.setCell ⟨g, 0, none⟩ (.int .u32 (at0 m 0 : Nat))).setCell ⟨g, 1, none⟩ (.int .u32 (at0 m 1 : Nat))).setCell ⟨g, 2, none⟩ (.int .u32 (at0 m 2 : Nat))).setCell ⟨g, 3, none⟩ (.int .u32 (at0 m 3 : Nat))).setCell ⟨g, 4, none⟩ (.int .u32 (at0 m 4 : Nat))).setCell ⟨g, 5, none⟩ (.int .u32 (at0 m 5 : Nat))).setCell ⟨g, 6, none⟩ (.int .u32 (at0 m 6 : Nat))).setCell ⟨g, 7, none⟩ (.int .u32 (at0 m 7 : Nat))) :=
  (((((((h.setCell (p := ⟨g, _, none⟩) hB _).setCell (p := ⟨g, _, none⟩) hB _).setCell (p := ⟨g, _, none⟩) hB _).setCell (p := ⟨g, _, none⟩) hB _).setCell (p := ⟨g, _, none⟩) hB _).setCell (p := ⟨g, _, none⟩) hB _).setCell (p := ⟨g, _, none⟩) hB _).setCell (p := ⟨g, _, none⟩) hB _

def foldP (g b : List Nat) : List Nat := addW g (rnd ROOTS (sched b 48) (S8.of (addW g FIRST)) 64).list

set_option maxHeartbeats 4000000 in
theorem fold_any (g b : List Nat) (w : World) (hg : g.length = 8) (hb : b.length = 16) (bg : Lt 4294967296 g) (bb : Lt 4294967296 b) (hL : Laid w) :
    Calls Tryd.prog 75 #[arr32 g, arr32 b] w fun e w' => e = .returned (arr32 (foldP g b)) ∧ Below w.heap.size w w' := by
  have HL := hide1 hL
  have HG := hide1 bg
  have HB := hide1 bb
  have Hg := hide1 hg
  have Hb := hide1 hb
  clear hL bg bb hg hb
  unfold arr32
  go_enter Tryd.func75, Tryd.ntmps75
  go_upto_region 1 with (fail)
  generalize hW : World.alloc (World.alloc (World.alloc w _) _) _ = W
  have F := three w (row32 102 g) (row32 136 b) (row32 102 (zeros 8))
  have F' : Three w W (row32 102 g) (row32 136 b) (row32 102 (zeros 8)) := by rw [← hW]; exact F
  clear F hW
  have HF := hide1 F'
  have HFd := hide1 (heap_alloc_new W (row32 102 (zeros 8)))
  have hsz := F'.size
  rw [F'.size] at HFd
  clear F'
  go_wp2_with (first | (refine wpList_load_row rfl 102 (.tmp 2) rfl w.heap.size rfl 102 (u32s g).toArray (0, 0) _ HF.out.a Tryd.underlying102 rfl (by rw [show (u32s g).toArray.size = 8 by simp [u32s, Hg.out]]; kernel_rfl) ?_) | (refine wpList_store_own rfl 102 (.tmp 5) (.tmp 8) rfl (w.heap.size + 1 + 1 + 1) rfl (u32s g).toArray rfl 102 _ HFd.out (by rw [show (u32s g).toArray.size = 8 by simp [u32s, Hg.out]]; kernel_rfl) (by simp [u32s, Hg.out, zeros]) (all_one (u32s_one _)) ?_))
  generalize hX : World.setRow _ _ _ = X
  have x3 : X.heap[w.heap.size + 1 + 1 + 1]? = some (row32 102 g) := by rw [← hX]; exact setRow_heap _ _ _ _ _ _ HFd.out
  have xb : Below (w.heap.size + 1 + 1 + 1) W X := by
    rw [← hX]
    exact Below.setRow' ((Below.refl _ _).alloc (by rw [hsz]; exact Nat.le_refl _) _) (Nat.le_refl _) _
  have X3 := hide1 x3
  have XB := hide1 xb
  have Hsz := hide1 hsz
  clear hX x3 xb HFd hsz
  go_loopw [9] (fun i wr => ∃ k : Nat, k ≤ 8 ∧ i = .int .i64 k ∧ wr.heap[w.heap.size + 1 + 1 + 1]? = some (row32 102 (told (fun i => (at0 g i + at0 FIRST i) % 4294967296) g k)) ∧ Below (w.heap.size + 1 + 1 + 1) W wr) (fun i _ => 8 - (intOf i).toNat)
  case atStart => exact ⟨0, Nat.zero_le _, rfl, by rw [told_zero]; exact X3.out, XB.out⟩
  case round =>
    obtain ⟨k, hk, rfl, hrow, hbe⟩ := hrel
    clear X3 XB
    by_cases hlt : k < 8
    · have c1 := cell32 hrow (j := k) (by rw [told_length, Hg.out]; exact hlt)
      rw [at0_told (by rw [Hg.out]; exact hlt), if_neg (Nat.lt_irrefl _)] at c1
      have f1 := frozen_of_row wr (w.heap.size + 1 + 1 + 1) k _ _ hrow
      have c2 : wr.cell? ⟨0, k, none⟩ = some (.int .u32 (at0 FIRST k : Nat)) := ((HL.out.below HF.out.below HL.out.two).below hbe (by have := HL.out.two; omega)).first k hlt
      have HT : Hid (told (fun i => (at0 g i + at0 FIRST i) % 4294967296) g (k + 1) = (told (fun i => (at0 g i + at0 FIRST i) % 4294967296) g k).set k ((at0 g k + at0 FIRST k) % 4294967296)) := told_succ _ g (by rw [Hg.out]; exact hlt)
      generalize at0 g k = x at c1 HT
      generalize at0 FIRST k = y at c2 HT
      have HR := hide1 hrow
      have HE := hide1 hbe
      clear hrow hbe
      go_wp2
      go_region
      go_wp2
      go_roundw
      case rel =>
        refine ⟨k + 1, by omega, by go_num, ?_, ?_⟩
        · show (wr.setCell _ _).heap[_]? = _
          rw [sum_int, set32 HR.out, HT.out]
        · exact (HE.out.setCell (Nat.le_refl _) _).drew
      case measure => simp [intOf]; omega
    · have : k = 8 := by omega
      subst this
      rw [told_all Hg.out] at hrow
      have hrow' : wr.heap[w.heap.size + 1 + 1 + 1]? = some (row32 102 (addW g FIRST)) := hrow
      clear hrow
      have HR := hide1 hrow'
      have HE := hide1 hbe
      clear hrow' hbe
      go_upto_region 7 with (fail)
      have hlt3 := lt_heap HR.out
      have rb : wr.heap[w.heap.size + 1]? = some (row32 136 b) := (HE.out.block _ (by omega)).trans HF.out.b
      obtain ⟨⟨c0, c1, c2, c3, c4, c5, c6, c7⟩, _⟩ := cells8 HR.out (addW_length _ _)
      obtain ⟨e0, e1, e2, e3, e4, e5, e6, e7, e8, e9, e10, e11, e12, e13, e14, e15⟩ := cells16 rb Hb.out
      have hS := fun w => hide1 (spread_any b w Hb.out HB.out)
      have hM := fun (w : World) (h : Laid w) => hide1 (mix_any (addW g FIRST) (sched b 48) w (addW_length _ _) (by rw [sched_length, Hb.out]) (addW_lt _ _) (sched_lt HB.out 48) h)
      have HLX := hide1 ((HL.out.below HF.out.below HL.out.two).below HE.out (by have := HL.out.two; omega))
      unfold arr32 at hS hM
      rw [lit16 Hb.out] at hS
      rw [lit8 (addW_length _ _), lit8 (S8.list_length _)] at hM
      have Hlt3 := hide1 hlt3
      clear hlt3
      go_region_with (first
        | (go_at_call 96; refine (hS _).out.mono ?_; rintro e w1 ⟨rfl, hb1⟩; have K1 : Hid (Below wr.heap.size wr w1) := (Below.refl _ _).drew.trans hb1; obtain ⟨⟨d0, d1, d2, d3, d4, d5, d6, d7⟩, _⟩ := cells8 ((K1.out.block _ Hlt3.out).trans HR.out) (addW_length _ _))
        | (go_at_call 95; refine (hM _ (HLX.out.below K1.out (by have := HL.out.two; have := Hlt3.out; omega))).out.mono ?_; rintro e w2 ⟨rfl, hb2⟩; have K2 : Hid (Below wr.heap.size wr w2) := K1.out.trans (hb2.mono K1.out.size); obtain ⟨⟨q0, q1, q2, q3, q4, q5, q6, q7⟩, z0, z1, z2, z3, z4, z5, z6, z7⟩ := cells8 ((K2.out.block _ Hlt3.out).trans HR.out) (addW_length _ _)))
      all_goals
        have z1 := set_eight (m := (rnd ROOTS (sched b 48) (S8.of (addW g FIRST)) 64).list) ((K2.out.block _ Hlt3.out).trans HR.out) (addW_length _ _) (S8.list_length _)
        have z2 := below_eight (m := (rnd ROOTS (sched b 48) (S8.of (addW g FIRST)) 64).list) (HE.out.trans (K2.out.mono (Nat.le_of_lt Hlt3.out))) (Nat.le_refl (w.heap.size + 1 + 1 + 1))
        generalize hZ : World.setCell _ _ _ = Z
        rw [hZ] at z1 z2
        clear hZ hS hM
        generalize hst : (rnd ROOTS (sched b 48) (S8.of (addW g FIRST)) 64).list = st at z1
        have Hst := hide1 hst
        have ha : Z.heap[w.heap.size]? = some (row32 102 g) := (z2.block _ (by omega)).trans HF.out.a
        have hc : Z.heap[w.heap.size + 1 + 1]? = some (row32 102 (zeros 8)) := (z2.block _ (by omega)).trans HF.out.c
        have hB : Below w.heap.size w Z := HF.out.below.trans (z2.mono (by omega))
        have hl : st.length = 8 := by rw [← hst]; exact S8.list_length _
        have Hl := hide1 hl
        have Z1 := hide1 z1
        have ZA := hide1 ha
        have ZC := hide1 hc
        have ZB := hide1 hB
        clear hst z1 z2 ha hc hB hl K2 K1 c0 c1 c2 c3 c4 c5 c6 c7 q0 q1 q2 q3 q4 q5 q6 q7 hb1 hb2 d0 d1 d2 d3 d4 d5 d6 d7
        go_wp2
        go_loopw [25] (fun i wx => ∃ k : Nat, k ≤ 8 ∧ i = .int .i64 k ∧ wx.heap[w.heap.size]? = some (row32 102 (told (fun i => (at0 g i + at0 st i) % 4294967296) g k)) ∧ wx.heap[w.heap.size + 1 + 1]? = some (row32 102 (zeros 8)) ∧ wx.heap[w.heap.size + 1 + 1 + 1]? = some (row32 102 st) ∧ Below w.heap.size w wx) (fun i _ => 8 - (intOf i).toNat)
        case atStart => exact ⟨0, Nat.zero_le _, rfl, by rw [told_zero]; exact ZA.out, ZC.out, Z1.out, ZB.out⟩
        case round =>
          obtain ⟨k, hk, rfl, hrow, hr2, hr3, hbe⟩ := hrel
          clear ZA ZC Z1 ZB
          by_cases hlt : k < 8
          · have c1 := cell32 hrow (j := k) (by rw [told_length, Hg.out]; exact hlt)
            rw [at0_told (by rw [Hg.out]; exact hlt), if_neg (Nat.lt_irrefl _)] at c1
            have f1 := frozen_of_row wr (w.heap.size) k _ _ hrow
            have c2 := cell32 hr3 (j := k) (by rw [Hl.out]; exact hlt)
            have HT : Hid (told (fun i => (at0 g i + at0 st i) % 4294967296) g (k + 1) = (told (fun i => (at0 g i + at0 st i) % 4294967296) g k).set k ((at0 g k + at0 st k) % 4294967296)) := told_succ _ g (by rw [Hg.out]; exact hlt)
            generalize at0 g k = x at c1 HT
            generalize at0 st k = y at c2 HT
            have H1 := hide1 hrow
            have H2 := hide1 hr2
            have H3 := hide1 hr3
            have H4 := hide1 hbe
            clear hrow hr2 hr3 hbe
            go_wp2
            go_region
            go_wp2
            go_roundw
            case rel =>
              refine ⟨k + 1, by omega, by go_num, ?_, ?_, ?_, ?_⟩
              · show (wr.setCell _ _).heap[_]? = _
                rw [sum_int, set32 H1.out, HT.out]
              · exact (Below.heap_setCell _ _ _ _ (by show w.heap.size + 1 + 1 ≠ w.heap.size; omega)).trans H2.out
              · exact (Below.heap_setCell _ _ _ _ (by show w.heap.size + 1 + 1 + 1 ≠ w.heap.size; omega)).trans H3.out
              · exact (H4.out.setCell (Nat.le_refl _) _).drew
            case measure => simp [intOf]; omega
          · have : k = 8 := by omega
            subst this
            rw [told_all Hg.out] at hrow
            have hrow' : wr.heap[w.heap.size]? = some (row32 102 (foldP g b)) := by rw [foldP, Hst.out]; exact hrow
            have H1 := hide1 hrow'
            have H2 := hide1 hr2
            have H4 := hide1 hbe
            have Hf : Hid ((foldP g b).length = 8) := addW_length _ _
            clear hrow hrow' hr2 hr3 hbe
            go_wp2_with (first | (refine wpList_load_row rfl 102 (.tmp 2) rfl w.heap.size rfl 102 (u32s (foldP g b)).toArray (0, 0) _ H1.out Tryd.underlying102 rfl (by rw [show (u32s (foldP g b)).toArray.size = 8 by simp [u32s, Hf.out]]; kernel_rfl) ?_) | (refine wpList_store_own rfl 102 (.tmp 4) (.tmp 37) rfl (w.heap.size + 1 + 1) rfl (u32s (foldP g b)).toArray rfl 102 _ H2.out (by rw [show (u32s (foldP g b)).toArray.size = 8 by simp [u32s, Hf.out]]; kernel_rfl) (by simp [u32s, Hf.out, zeros]) (all_one (u32s_one _)) ?_))
            refine ret_row Tryd.results75 (w.heap.size + 1 + 1) 102 (u32s (foldP g b)).toArray rfl (setRow_heap _ _ _ _ _ _ H2.out) Tryd.underlying102 (by rw [show (u32s (foldP g b)).toArray.size = 8 by simp [u32s, Hf.out]]; kernel_rfl) rfl ⟨rfl, ?_⟩
            exact Below.setRow' H4.out (by omega) _
end Go.Proofs.YtlkkninnfiaedaaDoor.Sh

namespace Go.Proofs.YtlkkninnfiaedaaDoor.Sh

def W64 : Nat := 18446744073709551616

/- the digits of x * x -/
def sqD (x : Nat) : List Nat :=
  let h := x / 262144
  let l := x % 262144
  let c := l * l % 18446744073709551616
  let b := (2 * h % 18446744073709551616 * l % 18446744073709551616 + c / 262144) % 18446744073709551616
  let a := (h * h % 18446744073709551616 + b / 262144) % 18446744073709551616
  [c % 262144, b % 262144, a % 262144, a / 262144, 0, 0, 0, 0]
/- times x, digit by digit -/
def mulE (d : List Nat) (h l : Nat) : Nat → List Nat
  | 0 => zeros 8
  | i + 1 =>
    let e := (mulE d h l i).set i ((at0 (mulE d h l i) i + at0 d i * l % 18446744073709551616) % 18446744073709551616)
    e.set (i + 1) ((at0 e (i + 1) + at0 d i * h % 18446744073709551616) % 18446744073709551616)
/- what is above a digit goes to the next -/
def carE (e : List Nat) : Nat → List Nat
  | 0 => e
  | i + 1 =>
    let f := (carE e i).set (i + 1) ((at0 (carE e i) (i + 1) + at0 (carE e i) i / 262144) % 18446744073709551616)
    f.set i (at0 f i % 262144)
def bound (n : Nat) : List Nat := [0, 0, 0, 0, 0, n * 64 % 18446744073709551616 % 262144, n * 64 % 18446744073709551616 / 262144, 0]
/- held against each other, the highest first -/
def cmpE (e f : List Nat) : Nat → Bool
  | 0 => true
  | i + 1 => if at0 e i ≠ at0 f i then decide (at0 e i < at0 f i) else cmpE e f i
def cubeP (x n : Nat) : Bool := cmpE (carE (mulE (sqD x) (x / 262144) (x % 262144) 4) 7) (bound n) 8

def primeB (n : Nat) : Bool := decide (1 < n) && (List.range 18).all (fun c => decide (c < 2) || decide (n < c * c) || !(n % c == 0))
def rootTo (n : Nat) : Nat → Nat
  | 0 => 0
  | j + 1 => if cubeP (rootTo n j + 2 ^ (35 - j)) n then rootTo n j + 2 ^ (35 - j) else rootTo n j
def rootP (n : Nat) : Nat := rootTo n 36 % 4294967296
def primesTo (p : Nat) : List Nat := (List.range p).filter primeB
def outP (p : Nat) : List Nat := (primesTo p).map rootP

theorem primes312 : (primesTo 312).length = 64 := by decide +kernel
theorem primes311 : (primesTo 311).length = 63 := by decide +kernel
theorem primes_list : primesTo 312 = [2, 3, 5, 7, 11, 13, 17, 19, 23, 29, 31, 37, 41, 43, 47, 53, 59, 61, 67, 71, 73, 79, 83, 89, 97, 101, 103, 107, 109, 113, 127, 131, 137, 139, 149, 151, 157, 163, 167, 173, 179, 181, 191, 193, 197, 199, 211, 223, 227, 229, 233, 239, 241, 251, 257, 263, 269, 271, 277, 281, 283, 293, 307, 311] := by decide +kernel
theorem root2 : rootP 2 = 1116352408 := by decide +kernel
theorem root3 : rootP 3 = 1899447441 := by decide +kernel
theorem root5 : rootP 5 = 3049323471 := by decide +kernel
theorem root7 : rootP 7 = 3921009573 := by decide +kernel
theorem root11 : rootP 11 = 961987163 := by decide +kernel
theorem root13 : rootP 13 = 1508970993 := by decide +kernel
theorem root17 : rootP 17 = 2453635748 := by decide +kernel
theorem root19 : rootP 19 = 2870763221 := by decide +kernel
theorem root23 : rootP 23 = 3624381080 := by decide +kernel
theorem root29 : rootP 29 = 310598401 := by decide +kernel
theorem root31 : rootP 31 = 607225278 := by decide +kernel
theorem root37 : rootP 37 = 1426881987 := by decide +kernel
theorem root41 : rootP 41 = 1925078388 := by decide +kernel
theorem root43 : rootP 43 = 2162078206 := by decide +kernel
theorem root47 : rootP 47 = 2614888103 := by decide +kernel
theorem root53 : rootP 53 = 3248222580 := by decide +kernel
theorem root59 : rootP 59 = 3835390401 := by decide +kernel
theorem root61 : rootP 61 = 4022224774 := by decide +kernel
theorem root67 : rootP 67 = 264347078 := by decide +kernel
theorem root71 : rootP 71 = 604807628 := by decide +kernel
theorem root73 : rootP 73 = 770255983 := by decide +kernel
theorem root79 : rootP 79 = 1249150122 := by decide +kernel
theorem root83 : rootP 83 = 1555081692 := by decide +kernel
theorem root89 : rootP 89 = 1996064986 := by decide +kernel
theorem root97 : rootP 97 = 2554220882 := by decide +kernel
theorem root101 : rootP 101 = 2821834349 := by decide +kernel
theorem root103 : rootP 103 = 2952996808 := by decide +kernel
theorem root107 : rootP 107 = 3210313671 := by decide +kernel
theorem root109 : rootP 109 = 3336571891 := by decide +kernel
theorem root113 : rootP 113 = 3584528711 := by decide +kernel
theorem root127 : rootP 127 = 113926993 := by decide +kernel
theorem root131 : rootP 131 = 338241895 := by decide +kernel
theorem root137 : rootP 137 = 666307205 := by decide +kernel
theorem root139 : rootP 139 = 773529912 := by decide +kernel
theorem root149 : rootP 149 = 1294757372 := by decide +kernel
theorem root151 : rootP 151 = 1396182291 := by decide +kernel
theorem root157 : rootP 157 = 1695183700 := by decide +kernel
theorem root163 : rootP 163 = 1986661051 := by decide +kernel
theorem root167 : rootP 167 = 2177026350 := by decide +kernel
theorem root173 : rootP 173 = 2456956037 := by decide +kernel
theorem root179 : rootP 179 = 2730485921 := by decide +kernel
theorem root181 : rootP 181 = 2820302411 := by decide +kernel
theorem root191 : rootP 191 = 3259730800 := by decide +kernel
theorem root193 : rootP 193 = 3345764771 := by decide +kernel
theorem root197 : rootP 197 = 3516065817 := by decide +kernel
theorem root199 : rootP 199 = 3600352804 := by decide +kernel
theorem root211 : rootP 211 = 4094571909 := by decide +kernel
theorem root223 : rootP 223 = 275423344 := by decide +kernel
theorem root227 : rootP 227 = 430227734 := by decide +kernel
theorem root229 : rootP 229 = 506948616 := by decide +kernel
theorem root233 : rootP 233 = 659060556 := by decide +kernel
theorem root239 : rootP 239 = 883997877 := by decide +kernel
theorem root241 : rootP 241 = 958139571 := by decide +kernel
theorem root251 : rootP 251 = 1322822218 := by decide +kernel
theorem root257 : rootP 257 = 1537002063 := by decide +kernel
theorem root263 : rootP 263 = 1747873779 := by decide +kernel
theorem root269 : rootP 269 = 1955562222 := by decide +kernel
theorem root271 : rootP 271 = 2024104815 := by decide +kernel
theorem root277 : rootP 277 = 2227730452 := by decide +kernel
theorem root281 : rootP 281 = 2361852424 := by decide +kernel
theorem root283 : rootP 283 = 2428436474 := by decide +kernel
theorem root293 : rootP 293 = 2756734187 := by decide +kernel
theorem root307 : rootP 307 = 3204031479 := by decide +kernel
theorem root311 : rootP 311 = 3329325298 := by decide +kernel
theorem out312 : outP 312 = ROOTS := by
  rw [outP, primes_list]
  simp only [List.map_cons, List.map_nil, root2, root3, root5, root7, root11, root13, root17, root19, root23, root29, root31, root37, root41, root43, root47, root53, root59, root61, root67, root71, root73, root79, root83, root89, root97, root101, root103, root107, root109, root113, root127, root131, root137, root139, root149, root151, root157, root163, root167, root173, root179, root181, root191, root193, root197, root199, root211, root223, root227, root229, root233, root239, root241, root251, root257, root263, root269, root271, root277, root281, root283, root293, root307, root311]
  rfl

end Go.Proofs.YtlkkninnfiaedaaDoor.Sh

namespace Go.Proofs.YtlkkninnfiaedaaDoor.Sh
open Go.RowKit
set_option maxRecDepth 100000
attribute [local go_sem] not_any

theorem prime_no {n d : Nat} (h1 : 2 ≤ d) (h2 : d < 18) (h3 : d * d ≤ n) (h4 : n % d = 0) : primeB n = false := by
  unfold primeB
  rw [Bool.and_eq_false_iff]
  right
  rw [List.all_eq_false]
  refine ⟨d, List.mem_range.2 h2, ?_⟩
  have a1 : ¬ d < 2 := by omega
  have a2 : ¬ n < d * d := by omega
  simp [a1, a2, h4]
theorem prime_end {n d : Nat} (h3 : n < d * d) (h4 : ∀ c, 2 ≤ c → c < d → n % c ≠ 0) : primeB n = decide (1 < n) := by
  unfold primeB
  have : (List.range 18).all (fun c => decide (c < 2) || decide (n < c * c) || !(n % c == 0)) = true := by
    rw [List.all_eq_true]
    intro c _
    by_cases a1 : c < 2
    · simp [a1]
    · by_cases a2 : n < c * c
      · simp [a2]
      · have hc : c < d := by
          rcases Nat.lt_or_ge c d with h | h
          · exact h
          · have := Nat.mul_le_mul h h
            omega
        simp [h4 c (by omega) hc]
  rw [this, Bool.and_true]

set_option maxHeartbeats 1000000 in
theorem prime_any (n : Nat) (w : World) (hn : n < 324) :
    Calls Tryd.prog 97 #[.int .u64 (n : Int)] w fun e w' => e = .returned (.bool (primeB n)) ∧ w' = w := by
  go_enter Tryd.func97, Tryd.ntmps97
  go_wp2
  go_loop [3] (fun v => ∃ d : Nat, 2 ≤ d ∧ d ≤ 18 ∧ v = .int .u64 d ∧ ∀ c, 2 ≤ c → c < d → n % c ≠ 0) (fun v => 18 - (intOf v).toNat)
  case atStart => exact ⟨2, by omega, by omega, rfl, fun c h1 h2 => by omega⟩
  case round =>
    obtain ⟨d, h1, h2, rfl, h3⟩ := hrel
    have H3 := hide1 h3
    clear h3
    have hq0 : d * d ≤ 18 * 18 := Nat.mul_le_mul h2 h2
    obtain ⟨q, hq⟩ : ∃ q, q = d * d := ⟨_, rfl⟩
    have eq : (d : Int) * (d : Int) = (q : Int) := by rw [hq, Int.natCast_mul]
    rw [← hq] at hq0
    by_cases hle : q ≤ n
    · have h18 : d < 18 := by
        rcases Nat.lt_or_ge d 18 with h | h
        · exact h
        · have : d = 18 := by omega
          subst this
          omega
      have hq' := hide1 hq
      clear hq
      by_cases hr : n % d = 0
      · have HF := hide1 (prime_no h1 h18 (by rw [← hq'.out]; exact hle) hr)
        have e1 : (n : Int).tmod (d : Int) = 0 := by rw [show (n : Int).tmod (d : Int) = ((n % d : Nat) : Int) from rfl, hr]; rfl
        have e2 : (n : Int) % (d : Int) = 0 := by rw [← Int.natCast_emod, hr]; rfl
        have d0 : ¬ d = 0 := by omega
        clear hr
        go_wp2
        go_ret
        exact ⟨by rw [HF.out]; rfl, rfl⟩
      · obtain ⟨m, hm⟩ : ∃ m, m = n % d := ⟨_, rfl⟩
        have e1 : (n : Int).tmod (d : Int) = (m : Int) := by rw [hm]; rfl
        have e2 : (n : Int) % (d : Int) = (m : Int) := by rw [hm, Int.natCast_emod]
        have hm0 : ((m : Int) == 0) = false := by rw [beq_eq_false_iff_ne]; omega
        have Hr := hide1 hr
        have d0 : ¬ d = 0 := by omega
        clear hr hm
        go_wp2
        go_round
        case rel => exact ⟨d + 1, by omega, by omega, by go_num, fun c a1 a2 => by
          by_cases e : c = d
          · subst e; exact Hr.out
          · exact H3.out c a1 (by omega)⟩
        case measure => simp [intOf]; omega
    · have HE := hide1 (prime_end (d := d) (by rw [← hq]; omega) H3.out)
      have e1 : decide ((1 : Int) < (n : Int)) = decide (1 < n) := by
        by_cases h : 1 < n
        · rw [decide_eq_true h, decide_eq_true (by omega)]
        · rw [decide_eq_false h, decide_eq_false (by omega)]
      have E1 := hide1 e1
      clear hq e1
      go_wp2
      go_ret
      exact ⟨by rw [HE.out, ← E1.out]; rfl, rfl⟩
end Go.Proofs.YtlkkninnfiaedaaDoor.Sh
