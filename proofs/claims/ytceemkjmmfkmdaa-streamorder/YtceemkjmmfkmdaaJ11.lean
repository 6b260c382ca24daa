/- The program's New, of a plan that may be. -/
import Derived.Test.YtceemkjmmfkmdaaJ10
import Derived.Laws.MakeOwn
namespace Go.Proofs.Ytceemkjmmfkmdaa.St
open Go.RowKit
set_option maxRecDepth 100000
attribute [local go_sem] not_any

theorem info_part : (Try.prog.info? 72).map (fun i => (i.zero, i.size, i.bytes)) = some (some (.agg #[.int .i64 0, .bool false, .slice none 0 0]), 3, 40) := by kernel_rfl
def zpart : Array Value := #[.int .i64 0, .bool false, .slice none 0 0]
theorem made_at {n j r : Nat} (hj : j < n) (hr : r < 3) : (madeCells zpart (n * 3))[j * 3 + r]? = some (zpart[r]!) := by
  have h : j * 3 + r < n * 3 := by omega
  have hm : (j * 3 + r) % zpart.size = r := by show (j * 3 + r) % 3 = r; omega
  simp [madeCells, h, hm]
/- the rows of a joiner while it is made: k chunks are measured -/
def Fz (l : List Chk) (e k : Nat) (ps : Array Value) : Prop := ∀ (j : Nat) (c : Chk), l[j]? = some c → ps[j * 3]? = some (.int .i64 (if j < k then (e : Int) * c.ct else 0)) ∧ ps[j * 3 + 1]? = some (.bool false) ∧ ps[j * 3 + 2]? = some (.slice none 0 0)
theorem fz_zero {l : List Chk} {e n : Nat} (hn : l.length = n) : Fz l e 0 (madeCells zpart (n * 3)) := fun j c hj => by
  have h : j < n := by rw [← hn]; exact (List.getElem?_eq_some_iff.1 hj).1
  exact ⟨(made_at (r := 0) h (by omega)).trans rfl, (made_at (r := 1) h (by omega)).trans rfl, (made_at (r := 2) h (by omega)).trans rfl⟩
theorem fz_step {l : List Chk} {e k : Nat} {ps : Array Value} {c : Chk} (h : Fz l e k ps) (hk : l[k]? = some c) {z : Int} (hz : z = (e : Int) * c.ct) : Fz l e (k + 1) (ps.setIfInBounds (k * 3) (.int .i64 z)) := fun j d hj => by
  obtain ⟨h0, h1, h2⟩ := h j d hj
  refine ⟨?_, ?_, ?_⟩
  · by_cases e1 : j = k
    · subst e1
      have hs : j * 3 < ps.size := (Array.getElem?_eq_some_iff.1 h0).1
      obtain rfl : d = c := by rw [hk] at hj; cases hj; rfl
      rw [Array.getElem?_setIfInBounds_self_of_lt hs, if_pos (by omega), hz]
    · rw [Array.getElem?_setIfInBounds_ne (by omega), h0]
      by_cases e2 : j < k
      · rw [if_pos e2, if_pos (by omega)]
      · rw [if_neg e2, if_neg (by omega)]
  · rw [Array.getElem?_setIfInBounds_ne (by omega)]; exact h1
  · rw [Array.getElem?_setIfInBounds_ne (by omega)]; exact h2

/- what New leaves -/
def JPost (n e : Nat) (l : List Chk) (w : World) (r : Ending) (w' : World) : Prop := ∃ g gp ps F, r = .returned (.tuple #[.pointer (some ⟨g, 0, none⟩), .int .i64 0]) ∧ Jm w' g gp ps F l e (List.replicate n none) ∧ (∀ b, F b → w.heap.size ≤ b) ∧ Below w.heap.size w w'
set_option maxHeartbeats 8000000 in
theorem new_good (n c e : Nat) (a : Option Addr) (l : List Chk) (w : World) (ha : Cl w n a l) (hn : n ≤ 20) (hg : goodC l (e : Int) = 0) :
    Calls Try.prog 14 #[.slice a n c, .int .i64 (e : Int)] w (JPost n e l w) := by
  obtain ⟨i0, hi, hz0, hz1, hz2⟩ := info_of' info_part
  obtain ⟨⟨e0, e6⟩, hct⟩ := goodC_ct hg
  have hgo : goodGo l 0 = 0 := by
    unfold goodC at hg
    rwa [if_neg (by omega)] at hg
  have t1 : ¬ (e : Int) < 0 := by omega
  have t2 : ¬ (6 : Int) < (e : Int) := by omega
  have kC := hide1 (check_good n c a l w ha hn hgo)
  have hmk := fun W : World => run_make (P := Try.prog) W 64 72 i0 (.agg #[.int .i64 0, .bool false, .slice none 0 0]) Try.underlying64 hi hz0 .i64 .i64 (n : Int) (n : Int) (by omega) (by omega) (by rw [hz2]; omega) (by omega)
  simp only [Int.toNat_natCast, hz1] at hmk
  have HA := hide1 ha
  have HCT := hide1 hct
  clear ha hg hgo hct e0
  go_enter Try.func14, Try.ntmps14
  go_wp2_with fail
  go_at_call 23
  refine kC.out.mono ?_
  rintro r w1 ⟨rfl, hb1⟩
  have B1 := hide1 hb1
  clear hb1 kC
  go_upto_region 7 with (fail)
  generalize hY : World.alloc w1 _ = Y
  have y0 : Y.heap[w1.heap.size]? = some (.cells (madeCells zpart (n * 3)) 72 (0, 0)) := by rw [← hY]; exact heap_alloc_new _ _
  have yb : Below w.heap.size w Y := by rw [← hY]; exact B1.out.alloc B1.out.size _
  have hgw := B1.out.size
  obtain ⟨gp, hgp⟩ : ∃ g, g = w1.heap.size := ⟨_, rfl⟩
  rw [← hgp] at y0 hgw ⊢
  have Y0 := hide1 y0
  have YB := hide1 yb
  clear hY y0 yb hgp hmk B1
  go_wp2
  go_loopw [26] (fun v26 wr => ∃ (k : Nat) (ps : Array Value), k ≤ n ∧ v26 = .int .i64 k ∧ wr.heap[gp]? = some (.cells ps 72 (0, 0)) ∧ Fz l e k ps ∧ Below w.heap.size w wr) (fun v26 _ => n - (intOf v26).toNat)
  case atStart => exact ⟨0, _, Nat.zero_le _, rfl, Y0.out, fz_zero HA.out.len, YB.out⟩
  case round =>
    obtain ⟨k, ps, hk, rfl, hps, hfz, hbe⟩ := hrel
    by_cases hlt : k < n
    · have bk : (k : Int) < (n : Int) := by omega
      have bk2 : (k : Int) < 20 := by omega
      obtain ⟨x, hx⟩ : ∃ x, l[k]? = some x := ⟨_, List.getElem?_eq_getElem (by rw [HA.out.len]; exact hlt)⟩
      have hc2 := HCT.out x (List.mem_of_getElem? hx)
      obtain ⟨ga, oa, rfl, a0, a1, a2⟩ := (HA.out.below hbe (Nat.le_refl _)).at' k x hx
      obtain ⟨ja, hja⟩ : ∃ j, j = oa + k * 3 := ⟨_, rfl⟩
      rw [← hja] at a0 a1 a2
      have eja : oa + k * 3 = ja := hja.symm
      obtain ⟨z, hz⟩ : ∃ z, z = (e : Int) * x.ct := ⟨_, rfl⟩
      have hst := hide1 (fz_step hfz hx hz)
      have e1 : IntKind.i64.wrap ((e : Int) * x.ct) = z := by
        have h1 : (e : Int) * x.ct ≤ 6 * 512 := Int.mul_le_mul (by omega) hc2.2 (by omega) (by omega)
        have h2 : 0 ≤ (e : Int) * x.ct := Int.mul_nonneg (by omega) (by omega)
        rw [IntKind.wrap_i64, hz]
        omega
      obtain ⟨f, ct, sk⟩ := x
      have HFZ := hide1 (hfz k _ hx)
      have hs3 : ps[k * 3]? = some (.int .i64 0) := by
        have := HFZ.out.1
        rwa [if_neg (by omega)] at this
      have HE := hide1 hbe
      have HPS := hide1 hps
      clear hx hja hz hfz hc2 hps hbe HFZ
      have a0 : wr.cell? ⟨ga, ja, none⟩ = some (.int .u64 (f : Int)) := a0
      have a1 : wr.cell? ⟨ga, ja + 1, none⟩ = some (.int .i64 ct) := a1
      have a2 : wr.cell? ⟨ga, ja + 2, none⟩ = some (.int .i64 sk) := a2
      have e1 : IntKind.i64.wrap ((e : Int) * ct) = z := e1
      go_upto_region 10 with (fail)
      generalize hV : World.alloc wr _ = V
      have z0 : V.heap[wr.heap.size]? = some (.cells #[.int .u64 (f : Int), .int .i64 ct, .int .i64 sk] 32 (0, 0)) := by rw [← hV]; exact heap_alloc_new _ _
      have vb : Below wr.heap.size wr V := by rw [← hV]; exact below1 _
      have p0 : V.heap[gp]? = some (.cells ps 72 (0, 0)) := (vb.block gp (lt_heap HPS.out)).trans HPS.out
      have z1 : V.cell? ⟨wr.heap.size, 1, none⟩ = some (.int .i64 ct) := by rw [cell_of_row V _ 1 _ _ _ z0]; rfl
      have p1 : V.cell? ⟨gp, k * 3, none⟩ = some (.int .i64 0) := by rw [cell_of_row V gp _ _ _ _ p0]; exact hs3
      have f1 : V.frozen? ⟨gp, k * 3, none⟩ = false := frozen_of_row V gp _ _ _ p0
      obtain ⟨gz, hgz⟩ : ∃ g, g = wr.heap.size := ⟨_, rfl⟩
      rw [← hgz] at z1 ⊢
      have VB : Hid (Below w.heap.size w V) := HE.out.trans (vb.mono HE.out.size)
      have P0 := hide1 p0
      clear hV z0 vb hgz p0 HE HPS a0 a1 a2 hs3
      go_wp2
      go_roundw
      case rel => exact ⟨k + 1, _, by omega, by go_num, heap_setCell_same _ _ _ _ _ _ P0.out, hst.out, VB.out.setCell hgw _⟩
      case measure => simp [intOf]; omega
    · obtain rfl : k = n := by omega
      have nk : ¬ (k : Int) < (k : Int) := by omega
      have HE := hide1 hbe
      have HPS := hide1 hps
      have HFZ := hide1 hfz
      clear hps hfz hbe
      go_wp2
      go_ret2
      have hl := HA.out.len
      have hlt := lt_heap HPS.out
      have hz := HE.out.size
      refine ⟨wr.heap.size, gp, ps, fun b => b = wr.heap.size ∨ b = gp, rfl, ⟨by simp [hl], by omega, by omega, HCT.out, by omega, by rw [hl]; exact heap_alloc_new _ _, (heap_alloc_old _ _ hlt).trans HPS.out, .inl rfl, .inr rfl, fun b hb => ?_, fun j c o hj ho => ?_⟩, fun b hb => ?_, HE.out.alloc hz _⟩
      · rw [size_alloc]
        rcases hb with rfl | rfl <;> omega
      · obtain ⟨h0, h1, h2⟩ := HFZ.out j c hj
        have hjn : j < k := by rw [← hl]; exact (List.getElem?_eq_some_iff.1 hj).1
        rw [if_pos hjn] at h0
        obtain rfl : o = none := by
          rw [List.getElem?_replicate, if_pos hjn] at ho
          cases ho
          rfl
        exact ⟨h0, h1, none, 0, 0, h2, nl_none _, Nat.zero_le _, fun b q he => by cases he⟩
      · rcases hb with rfl | rfl <;> omega
end Go.Proofs.Ytceemkjmmfkmdaa.St
