/- How the arguments are opened: numbers, words, chunks, parts. -/
import Derived.Test.YtceemkjmmfkmdaaJ09
import Derived.Test.YtceemkjmmfkmdaaJ11
import Derived.ProofKit
import Derived.OpenShut
import Derived.ShutString
import Derived.ChangeOld
import Derived.Below
import Derived.Deep.Grids
import Derived.Deep.Slices
namespace Go.Proofs.Ytceemkjmmfkmdaa.St
open Go.ChangeShapes Go.WideShapes Go.RowKit Go.Deep
set_option maxRecDepth 100000

theorem own : ownKnob Try.prog.godebug = none := by kernel_rfl
theorem laidOut : laidOutB Try.prog = true := by kernel_rfl
theorem nat_u64 {n : Int} (h : (Lit.int .u64 n).wf = true) : ∃ a : Nat, n = (a : Int) ∧ a < 18446744073709551616 := by
  have := bounds_u64 h
  exact ⟨n.toNat, by omega, by omega⟩
theorem nat_u16 {n : Int} (h : (Lit.int .u16 n).wf = true) : ∃ a : Nat, n = (a : Int) ∧ a < 65536 := by
  have := bounds_u16 h
  exact ⟨n.toNat, by omega, by omega⟩
theorem nat_u8 {n : Int} (h : (Lit.int .u8 n).wf = true) : ∃ a : Nat, n = (a : Int) ∧ a < 256 := by
  have := bounds_u8 h
  exact ⟨n.toNat, by omega, by omega⟩
theorem cells_w : Try.prog.cellsOf 22 = 1 := by kernel_rfl
theorem cells3 : Try.prog.cellsOf 3 = 1 := by kernel_rfl
theorem cellsL : Try.prog.cellsOf 51 = 1 := by kernel_rfl
theorem cellsC : Try.prog.cellsOf 54 = 3 := by kernel_rfl
theorem cellsP : Try.prog.cellsOf 53 = 2 := by kernel_rfl
theorem add_plain (g o j : Nat) : (⟨g, o, none⟩ : Addr).add j = ⟨g, o + j, none⟩ := by unfold Addr.add; split <;> simp_all
theorem spot_none {W : World} {ad : Addr} {v : Value} (h : W.cell? (ad.add 0) = some v) : ∃ g o, ad = ⟨g, o, none⟩ := by
  obtain ⟨g, o, sp⟩ := ad
  have h1 := World.cell?_spot h
  have h2 : sp = none := by simpa [Addr.add] using h1
  subst h2
  exact ⟨g, o, rfl⟩
theorem choose_lt' {α : Type} [Inhabited α] {n : Nat} {Q : Nat → α → Prop} (h : ∀ i, i < n → ∃ q, Q i q) : ∃ q : Nat → α, ∀ i, i < n → Q i (q i) :=
  ⟨fun i => if hi : i < n then Classical.choose (h i hi) else default, fun i hi => by simp only [dif_pos hi]; exact Classical.choose_spec (h i hi)⟩
theorem two_list {α : Type} (l : List α) (h : l.length = 2) : ∃ a b, l = [a, b] := by
  match l, h with
  | [a, b], _ => exact ⟨a, b, rfl⟩
theorem three_list {α : Type} (l : List α) (h : l.length = 3) : ∃ a b c, l = [a, b, c] := by
  match l, h with
  | [a, b, c], _ => exact ⟨a, b, c, rfl⟩
theorem slice_cell {H : Type} {enc : TypeId × Value → H} {W : World} {held : Bool} {fuel : Nat} {t e : TypeId} {v : Value} {x : DataW H × List MemPlace} (ht : Try.prog.underlying t = some (.slice e))
    (h : DataW.trod enc Try.prog W 0 (fun _ => true) held fuel t [v] = some x) : ∃ a len cap, v = .slice a len cap := by
  rcases open_slice ht h with ⟨h0, _⟩ | ⟨ad, len', cap', m, n, D, Pl, hcs, _⟩
  · simp only [List.cons.injEq, and_true] at h0
    exact ⟨_, _, _, h0⟩
  · simp only [List.cons.injEq, and_true] at hcs
    exact ⟨_, _, _, hcs⟩

theorem open_il {H : Type} {enc : TypeId × Value → H} {W : World} {held : Bool} {fuel : Nat} {a : Option Addr} {len cap : Nat} {x : DataW H × List MemPlace} (h : DataW.trod enc Try.prog W 0 (fun _ => true) held fuel 35 [.slice a len cap] = some x) :
    ∃ l : List Int, Il W len a l := by
  rcases open_ints Try.underlying35 Try.underlying3 cells3 h with ⟨h0, _⟩ | ⟨ad, l', c', zs, hcs, _, hl, hm, hz, _, hcell, hwz⟩
  · cases h0
    exact ⟨[], ⟨rfl, fun j x hj => by simp at hj⟩⟩
  · cases hcs
    refine ⟨(List.range len).map (fun i => zs.getD i 0), ⟨by simp, fun j x hj => ?_⟩⟩
    have hjl : j < len := by
      have := (List.getElem?_eq_some_iff.1 hj).1
      simpa using this
    rw [List.getElem?_map, List.getElem?_range hjl] at hj
    obtain rfl := Option.some.inj hj
    have hz' : zs.length = cap := by simpa using hz
    have hc := hcell j (by omega)
    obtain ⟨g, o, rfl⟩ := spot_none (hcell 0 (by omega))
    rw [add_plain] at hc
    exact ⟨g, o, rfl, hc⟩
theorem open_nl {H : Type} {enc : TypeId × Value → H} {W : World} {held : Bool} {fuel : Nat} {a : Option Addr} {len cap : Nat} {x : DataW H × List MemPlace} (h : DataW.trod enc Try.prog W 0 (fun _ => true) held fuel 51 [.slice a len cap] = some x) :
    ∃ ws : List Nat, Nl W len a ws := by
  rcases open_ints Try.underlying51 Try.underlying22 cells_w h with ⟨h0, _⟩ | ⟨ad, l', c', zs, hcs, _, hl, hm, hz, _, hcell, hwz⟩
  · cases h0
    exact ⟨[], ⟨rfl, fun j x hj => by simp at hj⟩⟩
  · cases hcs
    refine ⟨(List.range len).map (fun i => (zs.getD i 0).toNat), ⟨by simp, fun j x hj => ?_⟩⟩
    have hjl : j < len := by
      have := (List.getElem?_eq_some_iff.1 hj).1
      simpa using this
    rw [List.getElem?_map, List.getElem?_range hjl] at hj
    obtain rfl := Option.some.inj hj
    have hz' : zs.length = cap := by simpa using hz
    have hb : 0 ≤ zs.getD j 0 := by
      have hmem : zs.getD j 0 ∈ zs := by
        rw [List.getD_eq_getElem?_getD, List.getElem?_eq_getElem (by omega)]
        exact List.getElem_mem (by omega)
      exact (bounds_u64 (hwz _ hmem)).1
    have hc := hcell j (by omega)
    obtain ⟨g, o, rfl⟩ := spot_none (hcell 0 (by omega))
    rw [add_plain] at hc
    refine ⟨g, o, rfl, hc.trans ?_⟩
    show some (Value.int .u64 (zs.getD j 0)) = some (.int .u64 (((zs.getD j 0).toNat : Nat) : Int))
    rw [Int.toNat_of_nonneg hb]
instance : Inhabited Chk := ⟨⟨0, 0, 0⟩⟩
instance : Inhabited Prt := ⟨⟨0, none, 0, 0, []⟩⟩
theorem open_chunks {H : Type} {enc : TypeId × Value → H} {W : World} {held : Bool} {fuel : Nat} {a : Option Addr} {len cap : Nat} {x : DataW H × List MemPlace} (h : DataW.trod enc Try.prog W 0 (fun _ => true) held fuel 27 [.slice a len cap] = some x) :
    ∃ l : List Chk, Cl W len a l := by
  rcases open_slice Try.underlying27 h with ⟨h0, _⟩ | ⟨ad, len', cap', m, n, D, Pl, hcs, _, hl, _, hmm, hx0, hx⟩
  · cases h0
    exact ⟨[], cl_none _⟩
  cases hcs
  have hlm : len ≤ m := by rw [hmm]; split <;> omega
  have each : ∀ i, i < len → ∃ q : Chk, W.cell? (ad.add (i * 3)) = some (.int .u64 (q.fr : Int)) ∧ W.cell? (ad.add (i * 3 + 1)) = some (.int .i64 q.ct) ∧ W.cell? (ad.add (i * 3 + 2)) = some (.int .i64 q.sk) := by
    intro i hi
    obtain ⟨cs', h1, h2⟩ := hx i (by omega)
    rw [cellsC] at h1
    obtain ⟨_, hlen3, hcell⟩ := World.cells?_some h1
    obtain ⟨xs, k, hk, hxy, _, hxl, hf⟩ := DataW.trod_struct Try.underlying54 h2
    have hxl' : xs.length = 3 := hxl
    clear hxl
    obtain ⟨y0, y1, y2, rfl⟩ := three_list xs hxl'
    obtain ⟨v0, v1, v2, rfl⟩ := three_list cs' hlen3
    have g0 := hf 0 _ rfl
    have g1 := hf 1 _ rfl
    have g2 := hf 2 _ rfl
    simp [cells3, cells_w] at g0 g1 g2
    obtain ⟨q0, e0, _, wf0⟩ := DataW.trod_int Try.underlying22 g0
    obtain ⟨q1, e1, _, _⟩ := DataW.trod_int Try.underlying3 g1
    obtain ⟨q2, e2, _, _⟩ := DataW.trod_int Try.underlying3 g2
    simp only [List.cons.injEq, and_true] at e0 e1 e2
    subst e0; subst e1; subst e2
    obtain ⟨a0, rfl, _⟩ := nat_u64 wf0
    have c0 := hcell 0 (by simp)
    have c1 := hcell 1 (by simp)
    have c2 := hcell 2 (by simp)
    rw [add_add] at c0 c1 c2
    exact ⟨⟨a0, q1, q2⟩, by simpa using c0, by simpa using c1, by simpa using c2⟩
  obtain ⟨q, hq⟩ := choose_lt' each
  refine ⟨(List.range len).map q, ⟨by simp, fun j c hj => ?_⟩⟩
  have hjl : j < len := by
    have := (List.getElem?_eq_some_iff.1 hj).1
    simpa using this
  rw [List.getElem?_map, List.getElem?_range hjl] at hj
  obtain rfl := Option.some.inj hj
  obtain ⟨c0, c1, c2⟩ := hq j hjl
  obtain ⟨g, o, rfl⟩ := spot_none (by simpa using (hq 0 (by omega)).1)
  rw [add_plain] at c0 c1 c2
  exact ⟨g, o, rfl, c0, by simpa [Nat.add_assoc] using c1, by simpa [Nat.add_assoc] using c2⟩
theorem open_parts {H : Type} {enc : TypeId × Value → H} {W : World} {held : Bool} {fuel : Nat} {a : Option Addr} {len cap : Nat} {x : DataW H × List MemPlace} (h : DataW.trod enc Try.prog W 0 (fun _ => true) held fuel 43 [.slice a len cap] = some x) :
    ∃ l : List Prt, Pp W len a l := by
  rcases open_slice Try.underlying43 h with ⟨h0, _⟩ | ⟨ad, len', cap', m, n, D, Pl, hcs, _, hl, _, hmm, hx0, hx⟩
  · cases h0
    exact ⟨[], ⟨rfl, fun j p hj => by simp at hj⟩⟩
  cases hcs
  have hlm : len ≤ m := by rw [hmm]; split <;> omega
  have each : ∀ i, i < len → ∃ q : Prt, W.cell? (ad.add (i * 2)) = some (.int .i64 q.i) ∧ W.cell? (ad.add (i * 2 + 1)) = some (.slice q.a q.m q.c) ∧ Nl W q.m q.a q.xs := by
    intro i hi
    obtain ⟨cs', h1, h2⟩ := hx i (by omega)
    rw [cellsP] at h1
    obtain ⟨_, hlen2, hcell⟩ := World.cells?_some h1
    obtain ⟨xs, k, hk, hxy, _, hxl, hf⟩ := DataW.trod_struct Try.underlying53 h2
    have hxl' : xs.length = 2 := hxl
    clear hxl
    obtain ⟨y0, y1, rfl⟩ := two_list xs hxl'
    obtain ⟨v0, v1, rfl⟩ := two_list cs' hlen2
    have g0 := hf 0 _ rfl
    have g1 := hf 1 _ rfl
    simp [cells3, cellsL] at g0 g1
    obtain ⟨q0, e0, _, _⟩ := DataW.trod_int Try.underlying3 g0
    simp only [List.cons.injEq, and_true] at e0
    subst e0
    obtain ⟨la, ln, lc, rfl⟩ := slice_cell Try.underlying51 g1
    obtain ⟨ws, nl⟩ := open_nl g1
    have c0 := hcell 0 (by simp)
    have c1 := hcell 1 (by simp)
    rw [add_add] at c0 c1
    exact ⟨⟨q0, la, ln, lc, ws⟩, by simpa using c0, by simpa using c1, nl⟩
  obtain ⟨q, hq⟩ := choose_lt' each
  refine ⟨(List.range len).map q, ⟨by simp, fun j c hj => ?_⟩⟩
  have hjl : j < len := by
    have := (List.getElem?_eq_some_iff.1 hj).1
    simpa using this
  rw [List.getElem?_map, List.getElem?_range hjl] at hj
  obtain rfl := Option.some.inj hj
  obtain ⟨c0, c1, c2⟩ := hq j hjl
  obtain ⟨g, o, rfl⟩ := spot_none (by simpa using (hq 0 (by omega)).1)
  rw [add_plain] at c0 c1
  exact ⟨g, o, rfl, c0, by simpa [Nat.add_assoc] using c1, c2⟩
end Go.Proofs.Ytceemkjmmfkmdaa.St
