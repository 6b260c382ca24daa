/- Bits copied: Raw, With, Bools. -/
import Derived.Test.YtaghcbmipihpmaaD
import Derived.Laws.CopyRow
namespace Go.Proofs.Ytaghcbmipihpmaa
open Go.RowKit
set_option maxRecDepth 100000
attribute [local go_sem] not_any mf_any

theorem size55 : (Try.prog.info? 37).map (·.size) = some 1 := by kernel_rfl

theorem addr_add (g o j : Nat) : (⟨g, o, none⟩ : Addr).add j = ⟨g, o + j, none⟩ := by unfold Addr.add; split <;> simp_all

theorem u64s_one (ws : List Nat) : ∀ v ∈ u64s ws, v.oneCell' = true := by
  intro v hv
  simp [u64s] at hv
  obtain ⟨x, _, rfl⟩ := hv
  rfl

theorem copy_words {W : World} {g gs m : Nat} {ws cur : List Nat} (hg : W.heap[g]? = some (wrow cur)) (hgs : W.heap[gs]? = some (wrow ws)) (h1 : cur.length = m) (h2 : ws.length = m) :
    (Builtin.copy_ #[30, 30] 3 #[.slice (some ⟨g, 0, none⟩) m m, .slice (some ⟨gs, 0, none⟩) m m]).run Try.prog W = .ok (goInt m) (W.setRow g (u64s ws).toArray) := by
  have h := run_copy_row (P := Try.prog) W 30 30 3 37 g 0 m m ⟨gs, 0, none⟩ m m (u64s cur).toArray 37 (u64s ws) Try.underlying30 size55 hg (by simp [u64s, h2]) (by
    intro j v hv
    rw [addr_add, Nat.zero_add, cell_of_row W gs j _ 37 (0, 0) hgs]
    simpa using hv) (by simp [u64s, h1, h2]) (u64s_one ws)
  rw [h]
  have e : (u64s ws).length = m := by simp [u64s, h2]
  rw [e]
  congr 2
  simp [u64s, h1]

theorem copy_nothing {W : World} (d a : Option Addr) : (Builtin.copy_ #[30, 30] 3 #[.slice d 0 0, .slice a 0 0]).run Try.prog W = .ok (goInt 0) W :=
  run_copy_none (P := Try.prog) W 30 30 3 37 d a 0 0 0 0 Try.underlying30 size55 rfl

theorem copy_vec {b b' : Nat} {W : World} {n : Nat} {a av : Option Addr} {l l0 : List Bool} (hs : Vc b W n a l) (hd : Vc b' W n av l0) :
    ∃ W', (Builtin.copy_ #[30, 30] 3 #[.slice av (need n 64) (need n 64), .slice a (need n 64) (need n 64)]).run Try.prog W = .ok (goInt (need n 64)) W' ∧ Vc b' W' n av l ∧ W.grownBy W' (blk av) := by
  by_cases h0 : n = 0
  · subst h0
    have hl : l = [] := List.eq_nil_of_length_eq_zero hs.len
    have hl0 : l0 = [] := List.eq_nil_of_length_eq_zero hd.len
    subst hl hl0
    exact ⟨W, copy_nothing av a, hd, ⟨rfl, rfl, rfl, Nat.le_refl _, fun _ _ _ => rfl⟩⟩
  · have hp : 0 < need n 64 := by rw [need64]; omega
    obtain ⟨gs, rfl, _, hgs, _⟩ := hs.cell hp
    obtain ⟨g, rfl, hb, hg, _⟩ := hd.cell hp
    refine ⟨_, copy_words hg hgs (by rw [chunks_length, hd.len]) (by rw [chunks_length, hs.len]), ⟨hs.len, .inr ⟨g, rfl, hb, setRow_heap W g _ _ _ _ hg⟩⟩, ⟨rfl, rfl, rfl, by simp, fun k _ hk => setRow_other W g k _ (fun e => hk (by simp [blk, e]))⟩⟩

theorem after2 {w w1 : World} {o1 o2 : Obj} (hb : Below ((w.alloc o1).alloc o2).heap.size ((w.alloc o1).alloc o2) w1) :
    w1.heap[w.heap.size]? = some o1 ∧ w1.heap[w.heap.size + 1]? = some o2 ∧ Below w.heap.size w w1 :=
  ⟨(hb.block _ (by simp; omega)).trans (heap_alloc2_old _ _ _), (hb.block _ (by simp)).trans (heap_alloc2_new _ _ _), (((Below.refl _ _).alloc (Nat.le_refl _) _).alloc (by simp) _).trans (hb.mono (by simp; omega))⟩

set_option maxHeartbeats 1000000 in
theorem copied_any (b : Nat) (w : World) (n : Nat) (a : Option Addr) (l : List Bool) (hv : Vc b w n a l) (hn : n ≤ 4194304) :
    Calls Try.prog 54 #[.agg #[.int .i64 n, .slice a (need n 64) (need n 64)]] w fun e w' => ∃ a', e = .returned (.agg #[.int .i64 n, .slice a' (need n 64) (need n 64)]) ∧ Vc w.heap.size w' n a' l ∧ Below w.heap.size w w' := by
  have hB := fun w => hide1 (blank_any n w hn)
  have HV := hide1 hv
  clear hv
  go_enter Try.func54, Try.ntmps54
  go_wp2_with (first | (go_at_call 46; refine (hB _).out.mono ?_; rintro e w1 ⟨av, rfl, hv1, hb⟩; obtain ⟨hx1, hx2, hbw⟩ := after2 hb; obtain ⟨c0, c1, _, _, l1⟩ := box2 hx1; obtain ⟨W', hcp, hV', hgr⟩ := copy_vec ((HV.out.below hbw (Nat.le_refl _)).alloc (.cells #[.int .i64 n, .slice av (need n 64) (need n 64)] 32)) (hv1.alloc _); have hk := hide1 hv1.blk; have HV' := hide1 hV'; have HX := hide1 hx2; have HX1 := hide1 hx1; clear hv1 hV' hx2 hx1; have q1 := (box2 ((hgr.block w1.heap.size (by simp) (fun e => by have := hk.out _ e.symm; omega)).trans (heap_alloc_new _ _))); have q2 := hide1 ((hgr.block (w.heap.size + 1) (by have := lt_heap HX.out; simp; omega) (fun e => by have := hk.out _ e.symm; simp at this; omega)).trans ((Below.heap_alloc _ _ _ (lt_heap HX.out)).trans HX.out)); have q3 := box2 q2.out; obtain ⟨s0, s1, _, _, lt1⟩ := q1; obtain ⟨t0, t1, t2, t3, lt2⟩ := q3))
  refine ret_vec Try.results54 (w.heap.size + 1) _ _ rfl (set_box2 q2.out) rfl ⟨_, rfl, ?_, ?_⟩
  · exact ((HV'.out.setCell (by simp) _).setCell (by simp) _).mono (by simp; omega)
  · exact (((hbw.alloc (by have := hbw.size; omega) _).grown hgr (by have := hbw.size; simp; omega) (fun k hk' => by have := hk.out k hk'; simp at this; omega)).setCell (by simp) _).setCell (by simp) _

end Go.Proofs.Ytaghcbmipihpmaa
