/- How a share is opened. -/
import Derived.Test.YtnkdbkhgfakjaaaKq
import Derived.Test.YtnkdbkhgfakjaaaKw
namespace Go.Proofs.Ytnkdbkhgfakjaaa
open Go.ChangeShapes Go.WideShapes Go.RowKit Go.Deep

theorem open_ul {H : Type} {enc : TypeId × Value → H} {W : World} {held : Bool} {fuel : Nat} {v : Value} {x : DataW H × List MemPlace} (h : DataW.trod enc Try.prog W 0 (fun _ => true) held fuel 35 [v] = some x) :
    ∃ (a : Option Addr) (len cap : Nat) (ws : List Nat), v = .slice a len cap ∧ Ul W len a ws := by
  have cells64 : Try.prog.cellsOf 47 = 1 := by kernel_rfl
  rcases open_ints Try.underlying35 Try.underlying47 cells64 h with ⟨h0, _⟩ | ⟨ad, len, cap, zs, hcs, _, hl, hm, hz, _, hcell, hwz⟩
  · simp only [List.cons.injEq, and_true] at h0
    exact ⟨_, _, _, [], h0, rfl, fun j x hj => by simp at hj, fun x hx => by cases hx⟩
  · simp only [List.cons.injEq, and_true] at hcs
    subst hcs
    have hz' : zs.length = cap := by simpa using hz
    have hb : ∀ j, j < zs.length → 0 ≤ zs.getD j 0 ∧ zs.getD j 0 ≤ 18446744073709551615 := fun j hj => by
      have hmem : zs.getD j 0 ∈ zs := by
        rw [List.getD_eq_getElem?_getD, List.getElem?_eq_getElem hj]
        exact List.getElem_mem hj
      exact bounds_u64 (hwz _ hmem)
    have hget : ∀ (j x : Nat), ((List.range len).map (fun i => (zs.getD i 0).toNat))[j]? = some x → j < len ∧ x = (zs.getD j 0).toNat := fun j x hj => by
      have hjl : j < len := by
        have := (List.getElem?_eq_some_iff.1 hj).1
        simpa using this
      rw [List.getElem?_map, List.getElem?_range hjl] at hj
      exact ⟨hjl, (Option.some.inj hj).symm⟩
    refine ⟨_, _, _, (List.range len).map (fun i => (zs.getD i 0).toNat), rfl, by simp, fun j x hj => ?_, fun x hx => ?_⟩
    · obtain ⟨hjl, rfl⟩ := hget j x hj
      have hc := hcell j (by omega)
      have hsp : ad.spot = none := by
        have := World.cell?_spot (hcell 0 (by omega))
        simpa [Addr.add] using this
      obtain ⟨g, o, sp0⟩ := ad
      simp only at hsp
      subst hsp
      have e : (⟨g, o, none⟩ : Addr).add j = ⟨g, o + j, none⟩ := by unfold Addr.add; split <;> simp_all
      rw [e] at hc
      refine ⟨g, o, rfl, ?_, block_lt_of_cell hc⟩
      rw [hc]
      have := hb j (by omega)
      congr 2
      omega
    · obtain ⟨j, hj⟩ := List.mem_iff_getElem?.1 hx
      obtain ⟨hjl, rfl⟩ := hget j x hj
      have := hb j (by omega)
      omega

theorem three_list {α : Type} (l : List α) (h : l.length = 3) : ∃ a b c, l = [a, b, c] := by
  match l, h with
  | [a, b, c], _ => exact ⟨a, b, c, rfl⟩

theorem open_share {H : Type} {enc : TypeId × Value → H} {W : World} {r : Reach} {b0 : Nat} {held : Bool} {v : Value} {d : DataW H} {p : List MemPlace}
    (hv : Value.okWide Try.prog W r b0 37 v) (h : DataW.Trod enc Try.prog W 0 (fun _ => true) held 37 v d p) : ∃ s : Sh, v = s.v ∧ s.In W := by
  have c37 : Try.prog.cellsOf 37 = 3 := by kernel_rfl
  have cellsL : Try.prog.cellsOf 35 = 1 := by kernel_rfl
  have hv' : ∃ cs, v = .agg cs ∧ cs.size = Try.prog.cellsOf 37 := by
    simp only [Value.okWide, Try.underlying37] at hv
    obtain ⟨cs, h1, h2, _⟩ := hv
    exact ⟨cs, h1, h2⟩
  obtain ⟨cs, rfl, hsz⟩ := hv'
  rw [c37] at hsz
  obtain ⟨fuel, hf⟩ := h
  obtain ⟨xs, k, hk, hxy, _, hxl, hf⟩ := DataW.trod_struct Try.underlying37 hf
  have hxl' : xs.length = 3 := hxl
  clear hxl
  obtain ⟨y0, y1, y2, rfl⟩ := three_list xs hxl'
  obtain ⟨v0, v1, v2, hcs⟩ := three_list cs.toList (by simpa using hsz)
  have g0 := hf 0 _ rfl
  have g1 := hf 1 _ rfl
  have g2 := hf 2 _ rfl
  have ec : (Value.agg cs).cells.toList = [v0, v1, v2] := hcs
  rw [ec] at g0 g1 g2
  simp [cellsL] at g0 g1 g2
  obtain ⟨a0, n0, c0, l0, rfl, u0⟩ := open_ul g0
  obtain ⟨a1, n1, c1, l1, rfl, u1⟩ := open_ul g1
  obtain ⟨a2, n2, c2, l2, rfl, u2⟩ := open_ul g2
  refine ⟨⟨n0, c0, a0, l0, n1, c1, a1, l1, n2, c2, a2, l2⟩, ?_, u0, u1, u2⟩
  have : cs = #[.slice a0 n0 c0, .slice a1 n1 c1, .slice a2 n2 c2] := by
    apply Array.toList_inj.1
    rw [hcs]
  rw [this]
  rfl

end Go.Proofs.Ytnkdbkhgfakjaaa
