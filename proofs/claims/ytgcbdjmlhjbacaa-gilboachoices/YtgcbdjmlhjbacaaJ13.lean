/- Bits copied: Raw, With, Bools. -/
import Derived.Test.YtgcbdjmlhjbacaaJ12
import Derived.Laws.CopyRow
namespace Go.Proofs.Ytgcbdjmlhjbacaa.T
open Go.RowKit
set_option maxRecDepth 100000
attribute [local go_sem] not_any mf_any

theorem size55 : (Try.prog.info? 44).map (·.size) = some 1 := by kernel_rfl

theorem addr_add (g o j : Nat) : (⟨g, o, none⟩ : Addr).add j = ⟨g, o + j, none⟩ := by unfold Addr.add; split <;> simp_all

theorem u64s_one (ws : List Nat) : ∀ v ∈ u64s ws, v.oneCell' = true := by
  intro v hv
  simp [u64s] at hv
  obtain ⟨x, _, rfl⟩ := hv
  rfl

theorem copy_words {W : World} {g gs m : Nat} {ws cur : List Nat} (hg : W.heap[g]? = some (wrow cur)) (hgs : W.heap[gs]? = some (wrow ws)) (h1 : cur.length = m) (h2 : ws.length = m) :
    (Builtin.copy_ #[22, 22] 3 #[.slice (some ⟨g, 0, none⟩) m m, .slice (some ⟨gs, 0, none⟩) m m]).run Try.prog W = .ok (goInt m) (W.setRow g (u64s ws).toArray) := by
  have h := run_copy_row (P := Try.prog) W 22 22 3 44 g 0 m m ⟨gs, 0, none⟩ m m (u64s cur).toArray 44 (u64s ws) Try.underlying22 size55 hg (by simp [u64s, h2]) (by
    intro j v hv
    rw [addr_add, Nat.zero_add, cell_of_row W gs j _ 44 (0, 0) hgs]
    simpa using hv) (by simp [u64s, h1, h2]) (u64s_one ws)
  rw [h]
  have e : (u64s ws).length = m := by simp [u64s, h2]
  rw [e]
  congr 2
  simp [u64s, h1]

theorem copy_nothing {W : World} (d a : Option Addr) : (Builtin.copy_ #[22, 22] 3 #[.slice d 0 0, .slice a 0 0]).run Try.prog W = .ok (goInt 0) W :=
  run_copy_none (P := Try.prog) W 22 22 3 44 d a 0 0 0 0 Try.underlying22 size55 rfl

theorem copy_vec {b b' : Nat} {W : World} {n : Nat} {a av : Option Addr} {l l0 : List Bool} (hs : Vc b W n a l) (hd : Vc b' W n av l0) :
    ∃ W', (Builtin.copy_ #[22, 22] 3 #[.slice av (need n 64) (need n 64), .slice a (need n 64) (need n 64)]).run Try.prog W = .ok (goInt (need n 64)) W' ∧ Vc b' W' n av l ∧ W.grownBy W' (blk av) := by
  by_cases h0 : n = 0
  · subst h0
    have hl : l = [] := List.eq_nil_of_length_eq_zero hs.len
    have hl0 : l0 = [] := List.eq_nil_of_length_eq_zero hd.len
    subst hl hl0
    exact ⟨W, copy_nothing av a, hd, ⟨rfl, rfl, rfl, Nat.le_refl _, fun _ _ _ => rfl⟩⟩
  · have hp : 0 < need n 64 := by rw [need64]; omega
    obtain ⟨gs, rfl, _, hgs, _⟩ := hs.cell hp
    obtain ⟨g, rfl, hb, hg, _⟩ := hd.cell hp
    refine ⟨_, copy_words hg hgs (by rw [chunks_length, hd.len]) (by rw [chunks_length, hs.len]), ⟨hs.len, .inr ⟨g, rfl, hb, setRow_heap W g _ _ _ _ hg⟩⟩, ⟨rfl, rfl, rfl, by simp, fun k _ hk => setRow_other W g k _ (fun e => hk (by simp [blk, e]))⟩⟩

theorem after2 {w w1 : World} {o1 o2 : Obj} (hb : Below ((w.alloc o1).alloc o2).heap.size ((w.alloc o1).alloc o2) w1) :
    w1.heap[w.heap.size]? = some o1 ∧ w1.heap[w.heap.size + 1]? = some o2 ∧ Below w.heap.size w w1 :=
  ⟨(hb.block _ (by simp; omega)).trans (heap_alloc2_old _ _ _), (hb.block _ (by simp)).trans (heap_alloc2_new _ _ _), (((Below.refl _ _).alloc (Nat.le_refl _) _).alloc (by simp) _).trans (hb.mono (by simp; omega))⟩

end Go.Proofs.Ytgcbdjmlhjbacaa.T
