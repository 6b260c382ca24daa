/- Bits made word by word, by a function that tells each word. Bits copied: Raw, With, Bools. Bits told anew: Raw, With, Bools. Xor, And, Equal. -/
import Derived.Test.YtlkkninnfiaedaaDoorJ13
import Derived.Laws.CopyRow
namespace Go.Proofs.YtlkkninnfiaedaaDoor.Pg.V
open Go.RowKit
set_option maxRecDepth 100000
attribute [local go_sem] not_any mf_any

/- the first k words told, the others 0 -/
def tells (F : Nat → Nat) (m k : Nat) : List Nat := (List.range m).map (fun i => if i < k then F i else 0)

theorem tells_length (F : Nat → Nat) (m k : Nat) : (tells F m k).length = m := by simp [tells]
theorem tells_get {F : Nat → Nat} {m k j x : Nat} (h : (tells F m k)[j]? = some x) : j < m ∧ x = if j < k then F j else 0 := by
  unfold tells at h
  rw [List.getElem?_map] at h
  by_cases hj : j < m
  · rw [List.getElem?_range hj] at h
    exact ⟨hj, (Option.some.inj h).symm⟩
  · rw [List.getElem?_eq_none (by simp; omega)] at h
    cases h
theorem tells_zero (F : Nat → Nat) (m : Nat) : tells F m 0 = List.replicate m 0 := by
  apply List.ext_getElem
  · simp [tells]
  · intro j h1 h2
    simp [tells]
theorem tells_succ (F : Nat → Nat) {m k : Nat} (_h : k < m) : tells F m (k + 1) = (tells F m k).set k (F k) := by
  apply List.ext_getElem
  · simp [tells]
  · intro j h1 h2
    rw [List.getElem_set]
    simp only [tells, List.getElem_map, List.getElem_range]
    by_cases hj : k = j
    · subst hj
      simp
    · have : (j < k + 1) ↔ j < k := by omega
      simp [hj, this]

set_option maxHeartbeats 4000000 in
theorem made_any (V : FuncId) (hV : V = 108) (cap : Array Value) (w : World) (n : Nat) (F : Nat → Nat) (l : List Bool) (hn : n ≤ 4194304) (hl : l.length = n)
    (hF : ∀ i, i < need n 64 → F i < 18446744073709551616 ∧ ∀ j, j < 64 → 64 * i + j < n → (F i).testBit j = l.getD (64 * i + j) false)
    (hcall : ∀ i W', i < need n 64 → Below w.heap.size w W' → Calls Tryd.prog V (#[.int .i64 (i : Nat)] ++ cap) W' fun e w'' => e = .returned (.int .u64 (F i : Nat)) ∧ ∃ q os, w'' = Sort.grow (W'.drewN q) os) :
    Calls Tryd.prog 107 #[.int .i64 n, .func (.func V) #[] cap] w fun e w' => ∃ a, e = .returned (.agg #[.int .i64 n, .slice a (need n 64) (need n 64)]) ∧ Vc w.heap.size w' n a l ∧ Below w.heap.size w w' := by
  have hB := fun w => hide1 (blank_any n w hn)
  have hm : need n 64 ≤ 65536 := by rw [need64]; omega
  have HF := hide1 hF
  have HC := hide1 hcall
  have HL := hide1 hl
  have hT := fun b w a ws h => hide1 (trim_any b w n a ws hn h)
  have hen : ∀ args w, (callFunc V args).run Tryd.prog w = .ok (.enter V args) w := by
    subst hV
    all_goals (intro args w; kernel_rfl)
  clear hF hcall hl
  go_enter Tryd.func107, Tryd.ntmps107
  go_wp2_with (first | (go_at_call 58; refine (hB _).out.mono ?_; rintro e w1 ⟨a, rfl, hv1, hb⟩))
  have hbx := after_alloc hb
  have l0 := lt_heap hbx
  have HG : Hid (∀ g, a = some ⟨g, 0, none⟩ → w.heap.size < g ∧ g < w1.heap.size) := by
    intro g hg
    have := hv1.blk g (by rw [hg]; rfl)
    simp at this
    exact ⟨by omega, this.2⟩
  go_loopw [12] (fun i wr => ∃ k : Nat, k ≤ need n 64 ∧ i = .int .i64 k ∧ Wr (w.heap.size + 1) wr n a (tells F (need n 64) k) ∧ wr.heap[w.heap.size]? = some (.cells #[.int .i64 0, .slice none 0 0] 41 (0, 0)) ∧
      wr.heap[w1.heap.size]? = some (.cells #[.int .i64 n, .slice a (need n 64) (need n 64)] 41 (0, 0)) ∧ Below w.heap.size w wr) (fun i _ => need n 64 - (intOf i).toNat)
  case atStart =>
    refine ⟨0, Nat.zero_le _, rfl, ?_, (Below.heap_alloc _ _ _ l0).trans hbx, heap_alloc_new _ _, (below_after hb).alloc (by omega) _⟩
    rw [tells_zero, ← chunks_falses]
    have := (hv1.alloc (.cells #[.int .i64 n, .slice a (need n 64) (need n 64)] 41)).wr
    simpa using this
  case round =>
    obtain ⟨k, hk, rfl, hW, hs, ht, hB'⟩ := hrel
    by_cases hlt : k < need n 64
    · obtain ⟨g, rfl, hbg, hg⟩ := hW.block hlt
      have hgg := HG.out g rfl
      obtain ⟨y, HY⟩ : ∃ y, (tells F (need n 64) k)[k]? = some y := ⟨_, List.getElem?_eq_getElem (show k < (tells F (need n 64) k).length by rw [tells_length]; exact hlt)⟩
      have HCd : Hid (Calls Tryd.prog V (#[.int .i64 (k : Nat)] ++ cap) wr.drew fun e w2 => e = .returned (.int .u64 (F k : Nat)) ∧ w2.heap[w1.heap.size]? = some (.cells #[.int .i64 n, .slice (some ⟨g, 0, none⟩) (need n 64) (need n 64)] 41 (0, 0)) ∧
          w2.heap[w.heap.size]? = some (.cells #[.int .i64 0, .slice none 0 0] 41 (0, 0)) ∧ w2.heap[g]? = some (wrow (tells F (need n 64) k)) ∧ Below w.heap.size w w2 ∧
          w2.cell? ⟨w1.heap.size, 1, none⟩ = some (.slice (some ⟨g, 0, none⟩) (need n 64) (need n 64)) ∧ w2.cell? ⟨g, k, none⟩ = some (.int .u64 (y : Nat)) ∧ w2.frozen? ⟨g, k, none⟩ = false) := by
        refine (HC.out k wr.drew hlt hB'.drew).mono ?_
        rintro e w2 ⟨rfl, hq⟩
        have hb2 : Below wr.heap.size wr w2 := (Below.refl wr.heap.size wr).drew.trans (gr_below hq)
        have t2 := (hb2.block _ (lt_heap ht)).trans ht
        have g2 := (hb2.block _ (lt_heap hg)).trans hg
        exact ⟨rfl, t2, (hb2.block _ (lt_heap hs)).trans hs, g2, hB'.trans (hb2.mono hB'.size), (box2 t2).2.1, row_cell g2 HY, frozen_of_row w2 g k _ _ g2⟩
      have HS := hide1 hs
      have HT := hide1 ht
      have HW := hide1 hW
      have HGk := hide1 hg
      have HFk := hide1 (HF.out k hlt)
      obtain ⟨d0, d1, _, _, ltt⟩ := box2 ht
      clear hs ht hW hg HY
      go_wp2
      subst hV
      all_goals
        go_region_with (first | (go_at_call 108; refine HCd.out.mono ?_; rintro e w2 ⟨rfl, t2, s2, g2, b2, c1, c2, c3⟩; have T2 := hide1 t2; have S2 := hide1 s2; have G2 := hide1 g2; clear t2 s2 g2))
        all_goals
          go_wp2
          go_roundw
          case rel =>
            refine ⟨k + 1, by omega, by go_num, ?_, ?_, ?_, ?_⟩
            · rw [tells_succ F hlt]
              exact Wr.set ⟨by rw [tells_length], HW.out.lt, .inr ⟨g, rfl, hbg, G2.out⟩⟩ HFk.out.1
            · exact (Below.heap_setCell _ _ _ _ (by simp; omega)).trans S2.out
            · exact (Below.heap_setCell _ _ _ _ (by simp; omega)).trans T2.out
            · exact b2.setCell (by simp; omega) _
          case measure => simp [intOf]; omega
    · have : k = need n 64 := by omega
      subst this
      have HS := hide1 hs
      have HT := hide1 ht
      have HW := hide1 hW
      obtain ⟨d0, d1, _, _, ltt⟩ := box2 ht
      clear hs ht hW
      have HTr := hide1 (show Calls Tryd.prog 117 #[.agg #[.int .i64 n, .slice a (need n 64) (need n 64)]] wr fun e w2 => e = .returned (.tuple #[]) ∧ Vc (w.heap.size + 1) w2 n a l ∧ w2.heap[w1.heap.size]? = some (.cells #[.int .i64 n, .slice a (need n 64) (need n 64)] 41 (0, 0)) ∧
          w2.heap[w.heap.size]? = some (.cells #[.int .i64 0, .slice none 0 0] 41 (0, 0)) ∧ Below w.heap.size w w2 by
        refine (hT _ _ _ _ HW.out).out.mono ?_
        rintro e w2 ⟨rfl, hr2, hgr⟩
        have hk : ∀ k, blk a = some k → w.heap.size + 1 ≤ k ∧ k < w1.heap.size := fun k hk => by
          have h1 := (HW.out.blk k hk).1
          cases a with
          | none => cases hk
          | some p =>
            obtain ⟨_, _, h | ⟨g, h3, h4, h5⟩⟩ := HW.out
            · cases h.2
            · cases h3
              cases hk
              exact ⟨h1, (HG.out g rfl).2⟩
        refine ⟨rfl, ?_, (hgr.block _ (lt_heap HT.out) (fun e => by have := hk _ e.symm; omega)).trans HT.out, (hgr.block _ (lt_heap HS.out) (fun e => by have := hk _ e.symm; omega)).trans HS.out, hB'.grown hgr hB'.size (fun k e => by have := hk _ e; omega)⟩
        refine Wr.vc ?_ HL.out
        rw [← trimmed_spec (n := n) (ws := tells F (need n 64) (need n 64)) HL.out (tells_length _ _ _)]
        · exact hr2
        · intro k x hx
          obtain ⟨h1, h2⟩ := tells_get hx
          rw [if_pos h1] at h2
          rw [h2]
          exact HF.out k h1)
      go_wp2_with (first | (go_at_call 117; refine HTr.out.mono ?_; rintro e w2 ⟨rfl, hv2, t2, s2, b2⟩; have V2 := hide1 hv2; obtain ⟨q0, q1, q2, q3, q4⟩ := box2 t2; have S2 := hide1 s2; obtain ⟨r0, r1, r2, r3, r4⟩ := box2 s2; clear hv2 t2 s2))
      refine ret_vec Tryd.results107 w.heap.size _ _ rfl (set_box2 S2.out) rfl ⟨_, rfl, ?_, ?_⟩
      · exact ((V2.out.setCell (by simp) _).setCell (by simp) _).mono (by omega)
      · exact (b2.setCell (Nat.le_refl _) _).setCell (Nat.le_refl _) _

end Go.Proofs.YtlkkninnfiaedaaDoor.Pg.V

namespace Go.Proofs.YtlkkninnfiaedaaDoor.Pg.V
open Go.RowKit
set_option maxRecDepth 100000
attribute [local go_sem] not_any mf_any

theorem addr_add (g o j : Nat) : (⟨g, o, none⟩ : Addr).add j = ⟨g, o + j, none⟩ := by unfold Addr.add; split <;> simp_all

theorem u64s_one (ws : List Nat) : ∀ v ∈ u64s ws, v.oneCell' = true := by
  intro v hv
  simp [u64s] at hv
  obtain ⟨x, _, rfl⟩ := hv
  rfl

theorem after2 {w w1 : World} {o1 o2 : Obj} (hb : Below ((w.alloc o1).alloc o2).heap.size ((w.alloc o1).alloc o2) w1) :
    w1.heap[w.heap.size]? = some o1 ∧ w1.heap[w.heap.size + 1]? = some o2 ∧ Below w.heap.size w w1 :=
  ⟨(hb.block _ (by simp; omega)).trans (heap_alloc2_old _ _ _), (hb.block _ (by simp)).trans (heap_alloc2_new _ _ _), (((Below.refl _ _).alloc (Nat.le_refl _) _).alloc (by simp) _).trans (hb.mono (by simp; omega))⟩

end Go.Proofs.YtlkkninnfiaedaaDoor.Pg.V

namespace Go.Proofs.YtlkkninnfiaedaaDoor.Pg.V
open Go.RowKit
set_option maxRecDepth 100000
theorem field_words (x : Value) (a : Option Addr) (n c : Nat) (w : World) : (Instr.field 41 (.agg #[x, .slice a n c]) 1).run Tryd.prog w = .ok (.slice a n c) w := by kernel_rfl
attribute [local go_sem] not_any mf_any field_words

theorem after3 {w w1 : World} {o1 o2 o3 : Obj} (hb : Below (((w.alloc o1).alloc o2).alloc o3).heap.size (((w.alloc o1).alloc o2).alloc o3) w1) :
    w1.heap[w.heap.size]? = some o1 ∧ w1.heap[w.heap.size + 1]? = some o2 ∧ w1.heap[w.heap.size + 2]? = some o3 ∧ Below w.heap.size w w1 := by
  have h := after2 (w := w.alloc o1) hb
  simp at h
  refine ⟨?_, h.1, h.2.1, ?_⟩
  · exact (hb.block _ (by simp; omega)).trans ((Below.heap_alloc _ _ _ (by simp; omega)).trans (heap_alloc2_old _ _ _))
  · exact ((Below.refl _ _).alloc (Nat.le_refl _) _).trans (h.2.2.mono (by omega))

def brow (l : List Bool) : Obj := .cells (bools l).toArray 4 (0, 0)

theorem make_bools (m : Nat) (hm : m ≤ 4194304) (w : World) : (Instr.makeSlice 53 (.int .i64 (m : Int)) (.int .i64 (m : Int))).run Tryd.prog w = .ok (.slice (some ⟨w.heap.size, 0, none⟩) m m) (w.alloc (brow (List.replicate m false))) := by
  have hi : (Tryd.prog.info? 4).map (fun i => (i.zero, i.size, i.bytes)) = some (some (.bool false), 1, 1) := by kernel_rfl
  obtain ⟨i0, hi, hz0, hz1, hz2⟩ := info_parts hi
  have h := run_make (P := Tryd.prog) w 53 4 i0 _ Tryd.underlying53 hi hz0 .i64 .i64 (m : Int) (m : Int) (by omega) (by omega) (by rw [hz2]; omega) (by omega)
  rw [h, hz1]
  have e : madeCells (Value.bool false).cells ((m : Int).toNat * 1) = (bools (List.replicate m false)).toArray := by
    apply Array.ext
    · simp [madeCells, bools]
    · intro j h1 h2
      simp [madeCells, bools, Value.cells, Nat.mod_one]
  rw [e]
  rfl

theorem brow_cell {w : World} {g j : Nat} {x : Bool} {l : List Bool} (h : w.heap[g]? = some (brow l)) (hj : l[j]? = some x) : w.cell? ⟨g, j, none⟩ = some (.bool x) := by
  rw [cell_of_row w g j _ 4 (0, 0) h]
  simp [bools, hj]

theorem bset {w : World} {g j : Nat} {x : Bool} {l : List Bool} (h : w.heap[g]? = some (brow l)) : (w.setCell ⟨g, j, none⟩ (.bool x)).heap[g]? = some (brow (l.set j x)) := by
  rw [heap_setCell_same w g j _ 4 _ h]
  unfold brow bools
  congr 2
  simp

theorem bl_of_row {w : World} {g : Nat} {l : List Bool} (h : w.heap[g]? = some (brow l)) : Bl w l.length (some ⟨g, 0, none⟩) l :=
  ⟨rfl, fun j x hj => ⟨g, 0, rfl, by rw [Nat.zero_add]; exact brow_cell h hj⟩⟩

end Go.Proofs.YtlkkninnfiaedaaDoor.Pg.V

namespace Go.Proofs.YtlkkninnfiaedaaDoor.Pg.V
open Go.RowKit
set_option maxRecDepth 100000
attribute [local go_sem] not_any mf_any field_words

theorem after4 {w w1 : World} {o1 o2 o3 o4 : Obj} (hb : Below ((((w.alloc o1).alloc o2).alloc o3).alloc o4).heap.size ((((w.alloc o1).alloc o2).alloc o3).alloc o4) w1) :
    w1.heap[w.heap.size]? = some o1 ∧ w1.heap[w.heap.size + 1]? = some o2 ∧ w1.heap[w.heap.size + 2]? = some o3 ∧ w1.heap[w.heap.size + 3]? = some o4 ∧ Below w.heap.size w w1 := by
  have h := after3 (w := w.alloc o1) hb
  have e : (w.alloc o1).heap.size = w.heap.size + 1 := by simp
  rw [e] at h
  obtain ⟨h1, h2, h3, h4⟩ := h
  exact ⟨(h4.block _ (by omega)).trans (heap_alloc_new _ _), h1, h2, h3, ((Below.refl _ _).alloc (Nat.le_refl _) _).trans (h4.mono (by omega))⟩

theorem chunks_inj {la lb : List Bool} (hl : la.length = lb.length) (h : chunks 64 la = chunks 64 lb) : la = lb := by
  apply bool_ext hl
  intro j hj
  have hk : j / 64 < need la.length 64 := by rw [need64]; omega
  have h1 := chunks_get hk
  rw [h, chunks_get (by rw [← hl]; exact hk)] at h1
  have h2 := congrArg (fun x => x.testBit (j % 64)) (Option.some.inj h1)
  simp only [chunk_testBit, Nat.div_add_mod] at h2
  have : j % 64 < 64 := Nat.mod_lt _ (by omega)
  simp [this] at h2
  exact h2.symm

/- words in memory, to be read -/
structure Nl (w : World) (m : Nat) (a : Option Addr) (ws : List Nat) : Prop where
  len : ws.length = m
  at' : ∀ (j : Nat) (x : Nat), ws[j]? = some x → ∃ g o, a = some ⟨g, o, none⟩ ∧ w.cell? ⟨g, o + j, none⟩ = some (.int .u64 (x : Int))

theorem Vc.nl {b : Nat} {w : World} {n : Nat} {a : Option Addr} {l : List Bool} (h : Vc b w n a l) : Nl w (need n 64) a (chunks 64 l) :=
  ⟨by rw [chunks_length, h.len], fun j x hj => by
    obtain ⟨h1, h2⟩ := chunks_get' hj
    rw [h.len] at h1
    obtain ⟨g, h3, _, _, h4⟩ := h.cell h1
    exact ⟨g, 0, h3, by rw [Nat.zero_add, h2]; exact h4⟩⟩

theorem Nl.below {B : Nat} {w w' : World} {m : Nat} {a : Option Addr} {ws : List Nat} (h : Nl w m a ws) (hB : Below B w w') (hs : w.heap.size ≤ B) : Nl w' m a ws :=
  ⟨h.len, fun j x hj => by
    obtain ⟨g, o, h1, h2⟩ := h.at' j x hj
    exact ⟨g, o, h1, (hB.cell (p := ⟨g, o + j, none⟩) (by have := lt_cell h2; simp; omega)).trans h2⟩⟩

theorem take_succ_eq {α : Type} {xs ys : List α} {k : Nat} {x : α} (h : xs.take k = ys.take k) (h1 : xs[k]? = some x) (h2 : ys[k]? = some x) : xs.take (k + 1) = ys.take (k + 1) := by
  rw [List.take_add_one, List.take_add_one, h, h1, h2]

theorem gr_drewN (w : World) (q : Nat) : ∃ q' os, w.drewN q = Sort.grow (w.drewN q') os := ⟨q, #[], by rw [Sort.grow_empty]⟩

end Go.Proofs.YtlkkninnfiaedaaDoor.Pg.V
