/- Columns collected. -/
import Derived.Test.YtaghcbmipihpmaaUd
import Derived.Test.YtaghcbmipihpmaaUf
namespace Go.Proofs.Ytaghcbmipihpmaa
open Go.RowKit
set_option maxRecDepth 100000
attribute [local go_sem] not_any mf_any

theorem Wds.nl {b : Nat} {w : World} {gh : Nat} {gi : Nat → Nat} {m nb : Nat} {F : Nat → List Nat} (h : Wds b w gh gi m nb F) {i : Nat} (hi : i < m) : Nl w nb (some ⟨gi i, 0, none⟩) (F i) :=
  ⟨h.len i hi, fun j x hj => ⟨gi i, 0, rfl, by rw [Nat.zero_add]; exact row_cell (h.row i hi) hj⟩⟩

set_option maxHeartbeats 2000000 in
theorem cols1_any (b : Nat) (w : World) (n c i b1 b5 gh : Nat) (a : Option Addr) (gi : Nat → Nat) (F : Nat → List Nat) (h1 : w.cell? ⟨b1, 0, none⟩ = some (.slice a n c)) (h5 : w.cell? ⟨b5, 0, none⟩ = some (.slice (some ⟨gh, 0, none⟩) 128 128)) (hW : Wds b w gh gi 128 (need n 64) F) (hF : ∀ (k x : Nat), (F i)[k]? = some x → x < 18446744073709551616) (hi : i < 128) (hn : n ≤ 65536) :
    Calls Try.prog 25 #[.int .i64 i, .pointer (some ⟨b1, 0, none⟩), .pointer (some ⟨b5, 0, none⟩)] w fun e w' => ∃ av, e = .returned (.tuple #[.agg #[.int .i64 n, .slice av (need n 64) (need n 64)], .int .i64 0]) ∧ Vc w.heap.size w' n av (bitsOf n (F i)) ∧ Below w.heap.size w w' := by
  have hX := fun W (hb : Below w.heap.size w W) => hide1 (words_any n W (need n 64) (some ⟨gi i, 0, none⟩) (F i) (by omega) ((hW.nl hi).below hb (Nat.le_refl _)) hF)
  obtain ⟨W, hWW⟩ : ∃ W, W = w.alloc (.cells #[.int .i64 0, .slice none 0 0] 32) := ⟨_, rfl⟩
  have hB : Below w.heap.size w W := by rw [hWW]; exact below_alloc1 _ _
  have hbx : W.heap[w.heap.size]? = some (.cells #[.int .i64 0, .slice none 0 0] 32 (0, 0)) := by rw [hWW]; exact heap_alloc_new _ _
  have l1 := lt_cell h1
  have l5 := lt_cell h5
  have l6 := lt_cell (hW.hd i hi)
  have c1 := (hB.cell (p := ⟨b1, 0, none⟩) l1).trans h1
  have c5 := (hB.cell (p := ⟨b5, 0, none⟩) l5).trans h5
  have c6 := (hB.cell (p := ⟨gh, i, none⟩) l6).trans (hW.hd i hi)
  have k := hX W.drew hB.drew
  have HBX := hide1 hbx
  have HB := hide1 hB
  have hi2 : (i : Int) < 128 := by omega
  have hsz : w.heap.size < W.heap.size := lt_heap hbx
  obtain ⟨B, hBB⟩ : ∃ B, B = w.heap.size := ⟨_, rfl⟩
  have HBB := hide1 hBB
  go_enter Try.func25, Try.ntmps25
  go_wp2_with fail
  rw [← hWW]
  rw [← hBB]
  rw [← hBB] at hsz
  have HBX2 : Hid (W.heap[B]? = some (.cells #[.int .i64 0, .slice none 0 0] 32 (0, 0))) := by rw [hBB]; exact HBX.out
  clear hX hB hbx h1 h5 hWW hBB hW hF l1 l5 l6
  go_region_with (first | (go_at_call 26; refine k.out.mono ?_; rintro e w1 ⟨av, rfl, hv, hb⟩; have d := (hb.block B hsz).trans HBX2.out; have d0 := (box2 d).1; have d1 := (box2 d).2.1; have d2 := frozen_of_row w1 B 0 _ _ d; have d3 := frozen_of_row w1 B 1 _ _ d))
  all_goals
    go_wp2
    refine ret_vec2 Try.results25 B (.int .i64 n) (.slice av (need n 64) (need n 64)) (.int .i64 0) rfl rfl (set_box2 d) rfl ⟨av, rfl, ?_, ?_⟩
    · rw [← HBB.out]
      exact ((hv.setCell hsz _).setCell hsz _).mono (Nat.le_of_lt hsz)
    · rw [← HBB.out]
      have h9 : Below B w w1 := by
        have := HB.out
        rw [← HBB.out] at this
        exact this.drew.trans (hb.mono (Nat.le_of_lt hsz))
      exact (h9.setCell (Nat.le_refl _) _).setCell (Nat.le_refl _) _

/- Vecs that are read -/
structure Vcs (w : World) (m : Nat) (a : Option Addr) (n : Nat → Nat) (aa : Nat → Option Addr) (L : Nat → List Bool) : Prop where
  at' : ∀ i, i < m → ∃ g o, a = some ⟨g, o, none⟩ ∧ w.cell? ⟨g, o + i * 2, none⟩ = some (.int .i64 (n i : Nat)) ∧ w.cell? ⟨g, o + i * 2 + 1, none⟩ = some (.slice (aa i) (need (n i) 64) (need (n i) 64))
  vc : ∀ i, i < m → Vc 0 w (n i) (aa i) (L i)
  le : ∀ i, i < m → n i ≤ 4194304
theorem Vcs.below {B m : Nat} {w w' : World} {a : Option Addr} {n : Nat → Nat} {aa : Nat → Option Addr} {L : Nat → List Bool} (h : Vcs w m a n aa L) (hB : Below B w w') (hs : w.heap.size ≤ B) : Vcs w' m a n aa L :=
  ⟨fun i hi => by
    obtain ⟨g, o, e, c0, c1⟩ := h.at' i hi
    have l0 := lt_cell c0
    exact ⟨g, o, e, (hB.cell (p := ⟨g, o + i * 2, none⟩) (by simp; omega)).trans c0, (hB.cell (p := ⟨g, o + i * 2 + 1, none⟩) (by simp; omega)).trans c1⟩, fun i hi => (h.vc i hi).below hB hs, h.le⟩
theorem Vcs.first {w : World} {m : Nat} {a : Option Addr} {n : Nat → Nat} {aa : Nat → Option Addr} {L : Nat → List Bool} (h : Vcs w m a n aa L) (hm : 0 < m) : ∃ g o, a = some ⟨g, o, none⟩ ∧ g < w.heap.size ∧ ∀ i, i < m → w.cell? ⟨g, o + i * 2, none⟩ = some (.int .i64 (n i : Nat)) ∧ w.cell? ⟨g, o + i * 2 + 1, none⟩ = some (.slice (aa i) (need (n i) 64) (need (n i) 64)) := by
  obtain ⟨g, o, rfl, c0, _⟩ := h.at' 0 hm
  refine ⟨g, o, rfl, lt_cell c0, fun i hi => ?_⟩
  obtain ⟨g', o', e, d⟩ := h.at' i hi
  cases e
  exact d

theorem make_vecs (w : World) : ∃ cs : Array Value, cs.size = 256 ∧ (Instr.makeSlice 24 (.int .i64 128) (.int .i64 128)).run Try.prog w = .ok (.slice (some ⟨w.heap.size, 0, none⟩) 128 128) (w.alloc (.cells cs 32 (0, 0))) := by
  have hi : (Try.prog.info? 32).map (fun i => (i.zero, i.size, i.bytes)) = some (some (.agg #[.int .i64 0, .slice none 0 0]), 2, 32) := by kernel_rfl
  obtain ⟨i0, hi, hz0, hz1, hz2⟩ := info_parts hi
  have h := run_make (P := Try.prog) w 24 32 i0 _ Try.underlying24 hi hz0 .i64 .i64 128 128 (by omega) (by omega) (by rw [hz2]; omega) (by omega)
  refine ⟨_, ?_, h⟩
  rw [hz1]
  simp [madeCells]
end Go.Proofs.Ytaghcbmipihpmaa
