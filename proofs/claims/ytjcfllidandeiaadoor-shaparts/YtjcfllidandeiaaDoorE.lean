/- A block folded into the words: fold. -/
import Derived.Test.YtjcfllidandeiaaDoorD
import Derived.Deep.RegionWith
import Derived.Deep.Cut
import Derived.Deep.CutBlock
import Derived.Deep.DeepCutAuto
namespace Go.Proofs.YtjcfllidandeiaaDoor
open Go.RowKit
set_option maxRecDepth 100000
attribute [local go_sem] not_any

structure Four (w W : World) (A B C D : Obj) : Prop where
  size : W.heap.size = w.heap.size + 1 + 1 + 1 + 1
  a : W.heap[w.heap.size]? = some A
  b : W.heap[w.heap.size + 1]? = some B
  c : W.heap[w.heap.size + 1 + 1]? = some C
  d : W.heap[w.heap.size + 1 + 1 + 1]? = some D
  below : Below w.heap.size w W

theorem four (w : World) (A B C D : Obj) : Four w ((((w.alloc A).alloc B).alloc C).alloc D) A B C D := by
  have h := three w A B C
  refine ⟨by simp, ?_, ?_, ?_, ?_, h.below.alloc (by rw [h.size]; omega) _⟩
  · rw [heap_alloc_old _ _ (by rw [h.size]; omega)]; exact h.a
  · rw [heap_alloc_old _ _ (by rw [h.size]; omega)]; exact h.b
  · rw [heap_alloc_old _ _ (by rw [h.size]; omega)]; exact h.c
  · have := heap_alloc_new (((w.alloc A).alloc B).alloc C) D
    rw [h.size] at this
    exact this

theorem list8 (l : List Nat) (h : l.length = 8) : ∃ a b c d e f g i, l = [a, b, c, d, e, f, g, i] := by
  match l, h with
  | [a, b, c, d, e, f, g, i], _ => exact ⟨a, b, c, d, e, f, g, i, rfl⟩
theorem list16 (l : List Nat) (h : l.length = 16) : ∃ a b c d e f g i j k m n o p q r, l = [a, b, c, d, e, f, g, i, j, k, m, n, o, p, q, r] := by
  match l, h with
  | [a, b, c, d, e, f, g, i, j, k, m, n, o, p, q, r], _ => exact ⟨a, b, c, d, e, f, g, i, j, k, m, n, o, p, q, r, rfl⟩

/- the first k told anew -/
def told (f : Nat → Nat) (l : List Nat) (k : Nat) : List Nat := (List.range l.length).map (fun i => if i < k then f i else at0 l i)
theorem told_length (f : Nat → Nat) (l : List Nat) (k : Nat) : (told f l k).length = l.length := by simp [told]
theorem told_zero (f : Nat → Nat) (l : List Nat) : told f l 0 = l :=
  at0_ext (by simp [told]) (fun i hi => by rw [told_length] at hi; rw [told, at0_map_range hi]; simp)
theorem at0_told {f : Nat → Nat} {l : List Nat} {k i : Nat} (h : i < l.length) : at0 (told f l k) i = if i < k then f i else at0 l i := at0_map_range h
theorem at0_set {l : List Nat} {i j x : Nat} (h : i < l.length) : at0 (l.set i x) j = if i = j then x else at0 l j := by
  by_cases e : i = j
  · subst e; simp [at0, h]
  · simp [at0, e]
theorem told_succ (f : Nat → Nat) (l : List Nat) {k : Nat} (h : k < l.length) : told f l (k + 1) = (told f l k).set k (f k) := by
  refine at0_ext (by simp [told]) (fun i hi => ?_)
  rw [told_length] at hi
  rw [at0_told hi, at0_set (by rw [told_length]; exact h), at0_told hi]
  by_cases e : k = i
  · subst e; simp
  · have : (i < k + 1) ↔ i < k := by omega
    simp [e, this]
theorem told_all {f : Nat → Nat} {l : List Nat} {n : Nat} (h : l.length = n) : told f l n = (List.range n).map f := by
  rw [told, h]
  apply List.map_congr_left
  intro i hi
  rw [if_pos (List.mem_range.1 hi)]

theorem cells8 {w : World} {g : Nat} {t : TypeId} {l : List Nat} (h : w.heap[g]? = some (row32 t l)) (hl : l.length = 8) :
    (w.cell? ⟨g, 0, none⟩ = some (.int .u32 (at0 l 0 : Nat)) ∧ w.cell? ⟨g, 1, none⟩ = some (.int .u32 (at0 l 1 : Nat)) ∧ w.cell? ⟨g, 2, none⟩ = some (.int .u32 (at0 l 2 : Nat)) ∧ w.cell? ⟨g, 3, none⟩ = some (.int .u32 (at0 l 3 : Nat)) ∧ w.cell? ⟨g, 4, none⟩ = some (.int .u32 (at0 l 4 : Nat)) ∧ w.cell? ⟨g, 5, none⟩ = some (.int .u32 (at0 l 5 : Nat)) ∧ w.cell? ⟨g, 6, none⟩ = some (.int .u32 (at0 l 6 : Nat)) ∧ w.cell? ⟨g, 7, none⟩ = some (.int .u32 (at0 l 7 : Nat))) ∧ w.frozen? ⟨g, 0, none⟩ = false ∧ w.frozen? ⟨g, 1, none⟩ = false ∧ w.frozen? ⟨g, 2, none⟩ = false ∧ w.frozen? ⟨g, 3, none⟩ = false ∧ w.frozen? ⟨g, 4, none⟩ = false ∧ w.frozen? ⟨g, 5, none⟩ = false ∧ w.frozen? ⟨g, 6, none⟩ = false ∧ w.frozen? ⟨g, 7, none⟩ = false :=
  ⟨⟨cell32 h (by omega), cell32 h (by omega), cell32 h (by omega), cell32 h (by omega), cell32 h (by omega), cell32 h (by omega), cell32 h (by omega), cell32 h (by omega)⟩, frozen_of_row w g _ _ _ h, frozen_of_row w g _ _ _ h, frozen_of_row w g _ _ _ h, frozen_of_row w g _ _ _ h, frozen_of_row w g _ _ _ h, frozen_of_row w g _ _ _ h, frozen_of_row w g _ _ _ h, frozen_of_row w g _ _ _ h⟩
theorem cells16 {w : World} {g : Nat} {t : TypeId} {l : List Nat} (h : w.heap[g]? = some (row32 t l)) (hl : l.length = 16) :
    w.cell? ⟨g, 0, none⟩ = some (.int .u32 (at0 l 0 : Nat)) ∧ w.cell? ⟨g, 1, none⟩ = some (.int .u32 (at0 l 1 : Nat)) ∧ w.cell? ⟨g, 2, none⟩ = some (.int .u32 (at0 l 2 : Nat)) ∧ w.cell? ⟨g, 3, none⟩ = some (.int .u32 (at0 l 3 : Nat)) ∧ w.cell? ⟨g, 4, none⟩ = some (.int .u32 (at0 l 4 : Nat)) ∧ w.cell? ⟨g, 5, none⟩ = some (.int .u32 (at0 l 5 : Nat)) ∧ w.cell? ⟨g, 6, none⟩ = some (.int .u32 (at0 l 6 : Nat)) ∧ w.cell? ⟨g, 7, none⟩ = some (.int .u32 (at0 l 7 : Nat)) ∧ w.cell? ⟨g, 8, none⟩ = some (.int .u32 (at0 l 8 : Nat)) ∧ w.cell? ⟨g, 9, none⟩ = some (.int .u32 (at0 l 9 : Nat)) ∧ w.cell? ⟨g, 10, none⟩ = some (.int .u32 (at0 l 10 : Nat)) ∧ w.cell? ⟨g, 11, none⟩ = some (.int .u32 (at0 l 11 : Nat)) ∧ w.cell? ⟨g, 12, none⟩ = some (.int .u32 (at0 l 12 : Nat)) ∧ w.cell? ⟨g, 13, none⟩ = some (.int .u32 (at0 l 13 : Nat)) ∧ w.cell? ⟨g, 14, none⟩ = some (.int .u32 (at0 l 14 : Nat)) ∧ w.cell? ⟨g, 15, none⟩ = some (.int .u32 (at0 l 15 : Nat)) :=
  ⟨cell32 h (by omega), cell32 h (by omega), cell32 h (by omega), cell32 h (by omega), cell32 h (by omega), cell32 h (by omega), cell32 h (by omega), cell32 h (by omega), cell32 h (by omega), cell32 h (by omega), cell32 h (by omega), cell32 h (by omega), cell32 h (by omega), cell32 h (by omega), cell32 h (by omega), cell32 h (by omega)⟩
theorem lit8 {l : List Nat} (h : l.length = 8) : (u32s l).toArray = #[Value.int .u32 (at0 l 0 : Nat), Value.int .u32 (at0 l 1 : Nat), Value.int .u32 (at0 l 2 : Nat), Value.int .u32 (at0 l 3 : Nat), Value.int .u32 (at0 l 4 : Nat), Value.int .u32 (at0 l 5 : Nat), Value.int .u32 (at0 l 6 : Nat), Value.int .u32 (at0 l 7 : Nat)] := by
  obtain ⟨a, b, c, d, e, f, g, i, rfl⟩ := list8 l h
  rfl
theorem lit16 {l : List Nat} (h : l.length = 16) : (u32s l).toArray = #[Value.int .u32 (at0 l 0 : Nat), Value.int .u32 (at0 l 1 : Nat), Value.int .u32 (at0 l 2 : Nat), Value.int .u32 (at0 l 3 : Nat), Value.int .u32 (at0 l 4 : Nat), Value.int .u32 (at0 l 5 : Nat), Value.int .u32 (at0 l 6 : Nat), Value.int .u32 (at0 l 7 : Nat), Value.int .u32 (at0 l 8 : Nat), Value.int .u32 (at0 l 9 : Nat), Value.int .u32 (at0 l 10 : Nat), Value.int .u32 (at0 l 11 : Nat), Value.int .u32 (at0 l 12 : Nat), Value.int .u32 (at0 l 13 : Nat), Value.int .u32 (at0 l 14 : Nat), Value.int .u32 (at0 l 15 : Nat)] := by
  obtain ⟨a, b, c, d, e, f, g, i, j, k, m, n, o, p, q, r, rfl⟩ := list16 l h
  rfl

theorem set_eight {w : World} {g : Nat} {t : TypeId} {l m : List Nat} (h : w.heap[g]? = some (row32 t l)) (hl : l.length = 8) (hm : m.length = 8) :
    ((((((((w.setCell ⟨g, 0, none⟩ (.int .u32 (at0 m 0 : Nat))).setCell ⟨g, 1, none⟩ (.int .u32 (at0 m 1 : Nat))).setCell ⟨g, 2, none⟩ (.int .u32 (at0 m 2 : Nat))).setCell ⟨g, 3, none⟩ (.int .u32 (at0 m 3 : Nat))).setCell ⟨g, 4, none⟩ (.int .u32 (at0 m 4 : Nat))).setCell ⟨g, 5, none⟩ (.int .u32 (at0 m 5 : Nat))).setCell ⟨g, 6, none⟩ (.int .u32 (at0 m 6 : Nat))).setCell ⟨g, 7, none⟩ (.int .u32 (at0 m 7 : Nat))).heap[g]? = some (row32 t m) := by
  rw [set32 (set32 (set32 (set32 (set32 (set32 (set32 (set32 h)))))))]
  obtain ⟨a, b, c, d, e, f, g, i, rfl⟩ := list8 l hl
  obtain ⟨a', b', c', d', e', f', g', i', rfl⟩ := list8 m hm
  rfl
theorem below_eight {w0 w : World} {B g : Nat} {m : List Nat} (h : Below B w0 w) (hB : B ≤ g) :
    Below B w0 ((((((((w.setCell ⟨g, 0, none⟩ (.int .u32 (at0 m 0 : Nat))).setCell ⟨g, 1, none⟩ (.int .u32 (at0 m 1 : Nat))).setCell ⟨g, 2, none⟩ (.int .u32 (at0 m 2 : Nat))).setCell ⟨g, 3, none⟩ (.int .u32 (at0 m 3 : Nat))).setCell ⟨g, 4, none⟩ (.int .u32 (at0 m 4 : Nat))).setCell ⟨g, 5, none⟩ (.int .u32 (at0 m 5 : Nat))).setCell ⟨g, 6, none⟩ (.int .u32 (at0 m 6 : Nat))).setCell ⟨g, 7, none⟩ (.int .u32 (at0 m 7 : Nat))) :=
  (((((((h.setCell (p := ⟨g, _, none⟩) hB _).setCell (p := ⟨g, _, none⟩) hB _).setCell (p := ⟨g, _, none⟩) hB _).setCell (p := ⟨g, _, none⟩) hB _).setCell (p := ⟨g, _, none⟩) hB _).setCell (p := ⟨g, _, none⟩) hB _).setCell (p := ⟨g, _, none⟩) hB _).setCell (p := ⟨g, _, none⟩) hB _

def foldP (g b : List Nat) : List Nat := addW g (rnd ROOTS (sched b 48) (S8.of (addW g FIRST)) 64).list

set_option maxHeartbeats 4000000 in
theorem fold_any (g b : List Nat) (w : World) (hg : g.length = 8) (hb : b.length = 16) (bg : Lt 4294967296 g) (bb : Lt 4294967296 b) (hL : Laid w) :
    Calls Tryd.prog 22 #[arr32 g, arr32 b] w fun e w' => e = .returned (arr32 (foldP g b)) ∧ Below w.heap.size w w' := by
  have HL := hide1 hL
  have HG := hide1 bg
  have HB := hide1 bb
  have Hg := hide1 hg
  have Hb := hide1 hb
  clear hL bg bb hg hb
  unfold arr32
  go_enter Tryd.func22, Tryd.ntmps22
  go_upto_region 1 with (fail)
  generalize hW : World.alloc (World.alloc (World.alloc w _) _) _ = W
  have F := three w (row32 32 g) (row32 54 b) (row32 32 (zeros 8))
  have F' : Three w W (row32 32 g) (row32 54 b) (row32 32 (zeros 8)) := by rw [← hW]; exact F
  clear F hW
  have HF := hide1 F'
  have HFd := hide1 (heap_alloc_new W (row32 32 (zeros 8)))
  have hsz := F'.size
  rw [F'.size] at HFd
  clear F'
  go_wp2_with (first | (refine wpList_load_row rfl 32 (.tmp 2) rfl w.heap.size rfl 32 (u32s g).toArray (0, 0) _ HF.out.a Tryd.underlying32 rfl (by rw [show (u32s g).toArray.size = 8 by simp [u32s, Hg.out]]; kernel_rfl) ?_) | (refine wpList_store_own rfl 32 (.tmp 5) (.tmp 8) rfl (w.heap.size + 1 + 1 + 1) rfl (u32s g).toArray rfl 32 _ HFd.out (by rw [show (u32s g).toArray.size = 8 by simp [u32s, Hg.out]]; kernel_rfl) (by simp [u32s, Hg.out, zeros]) (all_one (u32s_one _)) ?_))
  generalize hX : World.setRow _ _ _ = X
  have x3 : X.heap[w.heap.size + 1 + 1 + 1]? = some (row32 32 g) := by rw [← hX]; exact setRow_heap _ _ _ _ _ _ HFd.out
  have xb : Below (w.heap.size + 1 + 1 + 1) W X := by
    rw [← hX]
    exact Below.setRow' ((Below.refl _ _).alloc (by rw [hsz]; exact Nat.le_refl _) _) (Nat.le_refl _) _
  have X3 := hide1 x3
  have XB := hide1 xb
  have Hsz := hide1 hsz
  clear hX x3 xb HFd hsz
  go_loopw [9] (fun i wr => ∃ k : Nat, k ≤ 8 ∧ i = .int .i64 k ∧ wr.heap[w.heap.size + 1 + 1 + 1]? = some (row32 32 (told (fun i => (at0 g i + at0 FIRST i) % 4294967296) g k)) ∧ Below (w.heap.size + 1 + 1 + 1) W wr) (fun i _ => 8 - (intOf i).toNat)
  case atStart => exact ⟨0, Nat.zero_le _, rfl, by rw [told_zero]; exact X3.out, XB.out⟩
  case round =>
    obtain ⟨k, hk, rfl, hrow, hbe⟩ := hrel
    clear X3 XB
    by_cases hlt : k < 8
    · have c1 := cell32 hrow (j := k) (by rw [told_length, Hg.out]; exact hlt)
      rw [at0_told (by rw [Hg.out]; exact hlt), if_neg (Nat.lt_irrefl _)] at c1
      have f1 := frozen_of_row wr (w.heap.size + 1 + 1 + 1) k _ _ hrow
      have c2 : wr.cell? ⟨0, k, none⟩ = some (.int .u32 (at0 FIRST k : Nat)) := ((HL.out.below HF.out.below HL.out.two).below hbe (by have := HL.out.two; omega)).first k hlt
      have HT : Hid (told (fun i => (at0 g i + at0 FIRST i) % 4294967296) g (k + 1) = (told (fun i => (at0 g i + at0 FIRST i) % 4294967296) g k).set k ((at0 g k + at0 FIRST k) % 4294967296)) := told_succ _ g (by rw [Hg.out]; exact hlt)
      generalize at0 g k = x at c1 HT
      generalize at0 FIRST k = y at c2 HT
      have HR := hide1 hrow
      have HE := hide1 hbe
      clear hrow hbe
      go_wp2
      go_region
      go_wp2
      go_roundw
      case rel =>
        refine ⟨k + 1, by omega, by go_num, ?_, ?_⟩
        · show (wr.setCell _ _).heap[_]? = _
          rw [sum_int, set32 HR.out, HT.out]
        · exact (HE.out.setCell (Nat.le_refl _) _).drew
      case measure => simp [intOf]; omega
    · have : k = 8 := by omega
      subst this
      rw [told_all Hg.out] at hrow
      have hrow' : wr.heap[w.heap.size + 1 + 1 + 1]? = some (row32 32 (addW g FIRST)) := hrow
      clear hrow
      have HR := hide1 hrow'
      have HE := hide1 hbe
      clear hrow' hbe
      go_upto_region 7 with (fail)
      have hlt3 := lt_heap HR.out
      have rb : wr.heap[w.heap.size + 1]? = some (row32 54 b) := (HE.out.block _ (by omega)).trans HF.out.b
      obtain ⟨⟨c0, c1, c2, c3, c4, c5, c6, c7⟩, _⟩ := cells8 HR.out (addW_length _ _)
      obtain ⟨e0, e1, e2, e3, e4, e5, e6, e7, e8, e9, e10, e11, e12, e13, e14, e15⟩ := cells16 rb Hb.out
      have hS := fun w => hide1 (spread_any b w Hb.out HB.out)
      have hM := fun (w : World) (h : Laid w) => hide1 (mix_any (addW g FIRST) (sched b 48) w (addW_length _ _) (by rw [sched_length, Hb.out]) (addW_lt _ _) (sched_lt HB.out 48) h)
      have HLX := hide1 ((HL.out.below HF.out.below HL.out.two).below HE.out (by have := HL.out.two; omega))
      unfold arr32 at hS hM
      rw [lit16 Hb.out] at hS
      rw [lit8 (addW_length _ _), lit8 (S8.list_length _)] at hM
      have Hlt3 := hide1 hlt3
      clear hlt3
      go_region_with (first
        | (go_at_call 31; refine (hS _).out.mono ?_; rintro e w1 ⟨rfl, hb1⟩; have K1 : Hid (Below wr.heap.size wr w1) := (Below.refl _ _).drew.trans hb1; obtain ⟨⟨d0, d1, d2, d3, d4, d5, d6, d7⟩, _⟩ := cells8 ((K1.out.block _ Hlt3.out).trans HR.out) (addW_length _ _))
        | (go_at_call 30; refine (hM _ (HLX.out.below K1.out (by have := HL.out.two; have := Hlt3.out; omega))).out.mono ?_; rintro e w2 ⟨rfl, hb2⟩; have K2 : Hid (Below wr.heap.size wr w2) := K1.out.trans (hb2.mono K1.out.size); obtain ⟨⟨q0, q1, q2, q3, q4, q5, q6, q7⟩, z0, z1, z2, z3, z4, z5, z6, z7⟩ := cells8 ((K2.out.block _ Hlt3.out).trans HR.out) (addW_length _ _)))
      all_goals
        have z1 := set_eight (m := (rnd ROOTS (sched b 48) (S8.of (addW g FIRST)) 64).list) ((K2.out.block _ Hlt3.out).trans HR.out) (addW_length _ _) (S8.list_length _)
        have z2 := below_eight (m := (rnd ROOTS (sched b 48) (S8.of (addW g FIRST)) 64).list) (HE.out.trans (K2.out.mono (Nat.le_of_lt Hlt3.out))) (Nat.le_refl (w.heap.size + 1 + 1 + 1))
        generalize hZ : World.setCell _ _ _ = Z
        rw [hZ] at z1 z2
        clear hZ hS hM
        generalize hst : (rnd ROOTS (sched b 48) (S8.of (addW g FIRST)) 64).list = st at z1
        have Hst := hide1 hst
        have ha : Z.heap[w.heap.size]? = some (row32 32 g) := (z2.block _ (by omega)).trans HF.out.a
        have hc : Z.heap[w.heap.size + 1 + 1]? = some (row32 32 (zeros 8)) := (z2.block _ (by omega)).trans HF.out.c
        have hB : Below w.heap.size w Z := HF.out.below.trans (z2.mono (by omega))
        have hl : st.length = 8 := by rw [← hst]; exact S8.list_length _
        have Hl := hide1 hl
        have Z1 := hide1 z1
        have ZA := hide1 ha
        have ZC := hide1 hc
        have ZB := hide1 hB
        clear hst z1 z2 ha hc hB hl K2 K1 c0 c1 c2 c3 c4 c5 c6 c7 q0 q1 q2 q3 q4 q5 q6 q7 hb1 hb2 d0 d1 d2 d3 d4 d5 d6 d7
        go_wp2
        go_loopw [25] (fun i wx => ∃ k : Nat, k ≤ 8 ∧ i = .int .i64 k ∧ wx.heap[w.heap.size]? = some (row32 32 (told (fun i => (at0 g i + at0 st i) % 4294967296) g k)) ∧ wx.heap[w.heap.size + 1 + 1]? = some (row32 32 (zeros 8)) ∧ wx.heap[w.heap.size + 1 + 1 + 1]? = some (row32 32 st) ∧ Below w.heap.size w wx) (fun i _ => 8 - (intOf i).toNat)
        case atStart => exact ⟨0, Nat.zero_le _, rfl, by rw [told_zero]; exact ZA.out, ZC.out, Z1.out, ZB.out⟩
        case round =>
          obtain ⟨k, hk, rfl, hrow, hr2, hr3, hbe⟩ := hrel
          clear ZA ZC Z1 ZB
          by_cases hlt : k < 8
          · have c1 := cell32 hrow (j := k) (by rw [told_length, Hg.out]; exact hlt)
            rw [at0_told (by rw [Hg.out]; exact hlt), if_neg (Nat.lt_irrefl _)] at c1
            have f1 := frozen_of_row wr (w.heap.size) k _ _ hrow
            have c2 := cell32 hr3 (j := k) (by rw [Hl.out]; exact hlt)
            have HT : Hid (told (fun i => (at0 g i + at0 st i) % 4294967296) g (k + 1) = (told (fun i => (at0 g i + at0 st i) % 4294967296) g k).set k ((at0 g k + at0 st k) % 4294967296)) := told_succ _ g (by rw [Hg.out]; exact hlt)
            generalize at0 g k = x at c1 HT
            generalize at0 st k = y at c2 HT
            have H1 := hide1 hrow
            have H2 := hide1 hr2
            have H3 := hide1 hr3
            have H4 := hide1 hbe
            clear hrow hr2 hr3 hbe
            go_wp2
            go_region
            go_wp2
            go_roundw
            case rel =>
              refine ⟨k + 1, by omega, by go_num, ?_, ?_, ?_, ?_⟩
              · show (wr.setCell _ _).heap[_]? = _
                rw [sum_int, set32 H1.out, HT.out]
              · exact (Below.heap_setCell _ _ _ _ (by show w.heap.size + 1 + 1 ≠ w.heap.size; omega)).trans H2.out
              · exact (Below.heap_setCell _ _ _ _ (by show w.heap.size + 1 + 1 + 1 ≠ w.heap.size; omega)).trans H3.out
              · exact (H4.out.setCell (Nat.le_refl _) _).drew
            case measure => simp [intOf]; omega
          · have : k = 8 := by omega
            subst this
            rw [told_all Hg.out] at hrow
            have hrow' : wr.heap[w.heap.size]? = some (row32 32 (foldP g b)) := by rw [foldP, Hst.out]; exact hrow
            have H1 := hide1 hrow'
            have H2 := hide1 hr2
            have H4 := hide1 hbe
            have Hf : Hid ((foldP g b).length = 8) := addW_length _ _
            clear hrow hrow' hr2 hr3 hbe
            go_wp2_with (first | (refine wpList_load_row rfl 32 (.tmp 2) rfl w.heap.size rfl 32 (u32s (foldP g b)).toArray (0, 0) _ H1.out Tryd.underlying32 rfl (by rw [show (u32s (foldP g b)).toArray.size = 8 by simp [u32s, Hf.out]]; kernel_rfl) ?_) | (refine wpList_store_own rfl 32 (.tmp 4) (.tmp 37) rfl (w.heap.size + 1 + 1) rfl (u32s (foldP g b)).toArray rfl 32 _ H2.out (by rw [show (u32s (foldP g b)).toArray.size = 8 by simp [u32s, Hf.out]]; kernel_rfl) (by simp [u32s, Hf.out, zeros]) (all_one (u32s_one _)) ?_))
            refine ret_row Tryd.results22 (w.heap.size + 1 + 1) 32 (u32s (foldP g b)).toArray rfl (setRow_heap _ _ _ _ _ _ H2.out) Tryd.underlying32 (by rw [show (u32s (foldP g b)).toArray.size = 8 by simp [u32s, Hf.out]]; kernel_rfl) rfl ⟨rfl, ?_⟩
            exact Below.setRow' H4.out (by omega) _
end Go.Proofs.YtjcfllidandeiaaDoor
