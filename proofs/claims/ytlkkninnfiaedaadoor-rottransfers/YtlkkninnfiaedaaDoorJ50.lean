/- Lists of seeds, and of pairs of seeds, opened. A row opened. What the row's list gives the walks; the door's own heap; arguments opened. -/
import Derived.Test.YtlkkninnfiaedaaDoorJ27
import Derived.Test.YtlkkninnfiaedaaDoorJ49
import Derived.Test.YtlkkninnfiaedaaDoorJ07
import Derived.Test.YtlkkninnfiaedaaDoorJ25
import Derived.ProofKit
import Derived.LaidMore
import Derived.OpenShut
import Derived.ShutString
import Derived.Carry
import Derived.Stop.Joined
import Derived.Lib.LaidTab
namespace Go.Proofs.YtlkkninnfiaedaaDoor.Ro
open Go.ChangeShapes Go.WideShapes Go.RowKit Go.Deep Pg
set_option maxRecDepth 100000

theorem cells_seed : Tryd.prog.cellsOf 28 = 32 := by kernel_rfl
theorem cells_pair : Tryd.prog.cellsOf 56 = 64 := by kernel_rfl
theorem cells_u8 : Tryd.prog.cellsOf 5 = 1 := by kernel_rfl
theorem zeros_good : (zeros 32).length = 32 ∧ Lt 256 (zeros 32) := by
  refine ⟨by decide, ?_⟩
  unfold Lt
  decide

/- the cells of one seed -/
theorem seed_cells {H : Type} {enc : TypeId × Value → H} {W : World} {held : Bool} {fuel : Nat} {cs : List Value} {x : DataW H × List MemPlace} (hl : cs.length = 32) (h : DataW.trod enc Tryd.prog W 0 (fun _ => true) held fuel 28 cs = some x) :
    ∃ l : List Nat, (l.length = 32 ∧ Lt 256 l) ∧ cs = u8s l := by
  obtain ⟨xs, m, rfl, hx, hlen, hn, hel⟩ := DataW.trod_array Tryd.underlying28 h
  have each : ∀ i, i < 32 → ∃ n : Nat, n < 256 ∧ cs[i]? = some (.int .u8 (n : Int)) := by
    intro i hi
    have hi' : i < xs.length := by rw [hn]; exact hi
    have h1 := hel i hi
    rw [List.getElem?_eq_getElem hi', cells_u8, Nat.mul_one] at h1
    obtain ⟨z, e1, _, hz⟩ := DataW.trod_int Tryd.underlying5 h1
    have hlt : i < cs.length := by omega
    have e2 : (cs.drop i).take 1 = [cs[i]] := by
      rw [List.drop_eq_getElem_cons hlt]
      rfl
    have e3 : [cs[i]] = [Value.int .u8 z] := e2.symm.trans e1
    have e4 : cs[i] = Value.int .u8 z := by simpa using e3
    obtain ⟨b1, b2⟩ := bounds_u8 hz
    refine ⟨z.toNat, by omega, ?_⟩
    rw [List.getElem?_eq_getElem hlt, e4, Int.toNat_of_nonneg b1]
  have pick : ∃ f : Nat → Nat, ∀ i, i < 32 → f i < 256 ∧ cs[i]? = some (.int .u8 (f i : Int)) :=
    ⟨fun i => if h : i < 32 then (each i h).choose else 0, fun i hi => by
      simp only [hi, dif_pos]
      exact (each i hi).choose_spec⟩
  obtain ⟨f, hf2⟩ := pick
  refine ⟨(List.range 32).map f, ⟨by simp, ?_⟩, ?_⟩
  · intro x hx
    simp only [List.mem_map, List.mem_range] at hx
    obtain ⟨i, hi, rfl⟩ := hx
    exact (hf2 i hi).1
  · apply List.ext_getElem?
    intro i
    by_cases hi : i < 32
    · rw [(hf2 i hi).2]
      simp [u8s, hi]
    · rw [List.getElem?_eq_none (by omega), List.getElem?_eq_none (by simp [u8s]; omega)]

theorem add_none (g o j : Nat) : (⟨g, o, none⟩ : Addr).add j = ⟨g, o + j, none⟩ := by unfold Addr.add; split <;> simp_all

theorem open_seeds {H : Type} {enc : TypeId × Value → H} {W : World} {held : Bool} {fuel : Nat} {a : Option Addr} {len cap : Nat} {x : DataW H × List MemPlace} (h : DataW.trod enc Tryd.prog W 0 (fun _ => true) held fuel 36 [.slice a len cap] = some x) : ∃ f, Sd W len a f := by
  rcases open_slice Tryd.underlying36 h with ⟨h0, _⟩ | ⟨ad, len', cap', m, n, D, Pl, hcs, _, hl, _, hmm, hx0, hx⟩
  · cases h0
    exact ⟨fun _ => zeros 32, fun j hj => by omega, fun _ => zeros_good⟩
  cases hcs
  have hlm : len ≤ m := by rw [hmm]; split <;> omega
  have each : ∀ j, ∃ q : List Nat, (q.length = 32 ∧ Lt 256 q) ∧ (j < len → ∃ g o, ad = ⟨g, o, none⟩ ∧ g < W.heap.size ∧ W.rangeAt g (o + j * 32) (u8s q)) := by
    intro j
    by_cases hj : j < len
    · obtain ⟨cs', h1, h2⟩ := hx j (by omega)
      rw [cells_seed] at h1
      obtain ⟨_, hlen, hcell⟩ := World.cells?_some h1
      obtain ⟨q, hq, rfl⟩ := seed_cells hlen h2
      have hsp : ad.spot = none := by
        obtain ⟨cs0, k1, k2⟩ := hx 0 (by omega)
        rw [cells_seed] at k1
        obtain ⟨_, klen, kcell⟩ := World.cells?_some k1
        obtain ⟨c0, hc0⟩ : ∃ c, cs0[0]? = some c := ⟨_, List.getElem?_eq_getElem (by omega)⟩
        have k0 := (kcell 0 (by omega)).trans hc0
        rw [add_add] at k0
        have := World.cell?_spot k0
        simpa [Addr.add] using this
      obtain ⟨g, o, sp0⟩ := ad
      simp only at hsp
      subst hsp
      refine ⟨q, hq, fun _ => ⟨g, o, rfl, ?_, fun i v hi => ?_⟩⟩
      · obtain ⟨c0, hc0⟩ : ∃ c, (u8s q)[0]? = some c := ⟨_, List.getElem?_eq_getElem (by omega)⟩
        have k0 := (hcell 0 (by omega)).trans hc0
        rw [add_add, add_none] at k0
        exact T.lt_cell k0
      · have hi2 : i < 32 := by
          have := (List.getElem?_eq_some_iff.1 hi).1
          omega
        have k0 := (hcell i hi2).trans hi
        rw [add_add, add_none, ← Nat.add_assoc] at k0
        exact k0
    · exact ⟨zeros 32, zeros_good, fun h => absurd h hj⟩
  refine ⟨fun j => Classical.choose (each j), fun j hj => ?_, fun j => (Classical.choose_spec (each j)).1⟩
  obtain ⟨_, h3⟩ := Classical.choose_spec (each j)
  obtain ⟨g, o, rfl, hg, hr⟩ := h3 hj
  exact ⟨g, o, rfl, hg, hr⟩

theorem open_pairs {H : Type} {enc : TypeId × Value → H} {W : World} {held : Bool} {fuel : Nat} {a : Option Addr} {len cap : Nat} {x : DataW H × List MemPlace} (h : DataW.trod enc Tryd.prog W 0 (fun _ => true) held fuel 33 [.slice a len cap] = some x) : ∃ f, Pd W len a f := by
  rcases open_slice Tryd.underlying33 h with ⟨h0, _⟩ | ⟨ad, len', cap', m, n, D, Pl, hcs, _, hl, _, hmm, hx0, hx⟩
  · cases h0
    exact ⟨fun _ => zeros 32, fun j hj => by omega, fun _ => zeros_good⟩
  cases hcs
  have hlm : len ≤ m := by rw [hmm]; split <;> omega
  have each : ∀ j, ∃ q : List Nat × List Nat, (q.1.length = 32 ∧ Lt 256 q.1) ∧ (q.2.length = 32 ∧ Lt 256 q.2) ∧ (j < len → ∃ g o, ad = ⟨g, o, none⟩ ∧ g < W.heap.size ∧ W.rangeAt g (o + j * 64) (u8s q.1) ∧ W.rangeAt g (o + j * 64 + 32) (u8s q.2)) := by
    intro j
    by_cases hj : j < len
    · obtain ⟨cs', h1, h2⟩ := hx j (by omega)
      rw [cells_pair] at h1
      obtain ⟨_, hlen, hcell⟩ := World.cells?_some h1
      obtain ⟨xs, k, hk, hxy, _, hxl, hf⟩ := DataW.trod_struct Tryd.underlying56 h2
      have hxl' : xs.length = 2 := hxl
      clear hxl
      obtain ⟨y0, y1, rfl⟩ := T.two_list xs hxl'
      have g0 : DataW.trod enc Tryd.prog W 0 (fun _ => true) held k 28 ((cs'.drop 0).take (Tryd.prog.cellsOf 28)) = some y0 := hf 0 _ rfl
      have g1 : DataW.trod enc Tryd.prog W 0 (fun _ => true) held k 28 ((cs'.drop 32).take (Tryd.prog.cellsOf 28)) = some y1 := hf 1 _ rfl
      rw [cells_seed] at g0 g1
      rw [List.drop_zero] at g0
      obtain ⟨q, hq, eq⟩ := seed_cells (by rw [List.length_take, hlen]; omega) g0
      obtain ⟨r, hr, er⟩ := seed_cells (by rw [List.length_take, List.length_drop, hlen]; omega) g1
      have hsp : ad.spot = none := by
        obtain ⟨cs0, k1, k2⟩ := hx 0 (by omega)
        rw [cells_pair] at k1
        obtain ⟨_, klen, kcell⟩ := World.cells?_some k1
        obtain ⟨c0, hc0⟩ : ∃ c, cs0[0]? = some c := ⟨_, List.getElem?_eq_getElem (by omega)⟩
        have k0 := (kcell 0 (by omega)).trans hc0
        rw [add_add] at k0
        have := World.cell?_spot k0
        simpa [Addr.add] using this
      obtain ⟨g, o, sp0⟩ := ad
      simp only at hsp
      subst hsp
      refine ⟨(q, r), hq, hr, fun _ => ⟨g, o, rfl, ?_, fun i v hi => ?_, fun i v hi => ?_⟩⟩
      · obtain ⟨c0, hc0⟩ : ∃ c, cs'[0]? = some c := ⟨_, List.getElem?_eq_getElem (by omega)⟩
        have k0 := (hcell 0 (by omega)).trans hc0
        rw [add_add, add_none] at k0
        exact T.lt_cell k0
      · have hi2 : i < 32 := by
          have h3 := (List.getElem?_eq_some_iff.1 hi).1
          have h4 : (u8s (q, r).1).length = 32 := (u8s_length q).trans hq.1
          omega
        have e5 : cs'[i]? = some v := by
          have h3 : (u8s q)[i]? = some v := hi
          rw [← eq, List.getElem?_take, if_pos hi2] at h3
          exact h3
        have k0 := (hcell i (by omega)).trans e5
        rw [add_add, add_none, ← Nat.add_assoc] at k0
        exact k0
      · have hi2 : i < 32 := by
          have h3 := (List.getElem?_eq_some_iff.1 hi).1
          have h4 : (u8s (q, r).2).length = 32 := (u8s_length r).trans hr.1
          omega
        have e5 : cs'[32 + i]? = some v := by
          have h3 : (u8s r)[i]? = some v := hi
          rw [← er, List.getElem?_take, if_pos hi2, List.getElem?_drop] at h3
          exact h3
        have k0 := (hcell (32 + i) (by omega)).trans e5
        rw [add_add, add_none, show o + (j * 64 + (32 + i)) = o + j * 64 + 32 + i by omega] at k0
        exact k0
    · exact ⟨(zeros 32, zeros 32), zeros_good, zeros_good, fun h => absurd h hj⟩
  refine ⟨fun i => if i % 2 = 0 then (Classical.choose (each (i / 2))).1 else (Classical.choose (each (i / 2))).2, fun j hj => ?_, fun i => ?_⟩
  · obtain ⟨_, _, h3⟩ := Classical.choose_spec (each j)
    obtain ⟨g, o, rfl, hg, hr, hr2⟩ := h3 hj
    refine ⟨g, o, rfl, hg, ?_, ?_⟩
    · simp only [show 2 * j % 2 = 0 by omega, show 2 * j / 2 = j by omega, if_true]; exact hr
    · simp only [show (2 * j + 1) % 2 = 1 by omega, show (2 * j + 1) / 2 = j by omega, Nat.one_ne_zero, if_false]; exact hr2
  · obtain ⟨h1, h2, _⟩ := Classical.choose_spec (each (i / 2))
    by_cases hp : i % 2 = 0
    · simp only [if_pos hp]; exact h1
    · simp only [if_neg hp]; exact h2
end Go.Proofs.YtlkkninnfiaedaaDoor.Ro

namespace Go.Proofs.YtlkkninnfiaedaaDoor
open Go.ChangeShapes Go.WideShapes Go.RowKit Pg
set_option maxRecDepth 100000

theorem open_row {H : Type} {enc : TypeId × Value → H} {W : World} {r : Reach} {b0 : Nat} {base : Nat} {spare : Nat → Bool} {held : Bool} {v : Value} {d : DataW H} {p : List MemPlace}
    (hv : Value.okWide Tryd.prog W r b0 24 v) (h : DataW.Trod enc Tryd.prog W base spare held 24 v d p) : ∃ a b : Nat, a < 18446744073709551616 ∧ b < 18446744073709551616 ∧ v = rw2 a b := by
  have c26 : Tryd.prog.cellsOf 24 = 2 := by kernel_rfl
  have c24 : Tryd.prog.cellsOf 22 = 1 := by kernel_rfl
  have hv' : ∃ cs, v = .agg cs ∧ cs.size = Tryd.prog.cellsOf 24 := by
    simp only [Value.okWide, Tryd.underlying24] at hv
    obtain ⟨cs, h1, h2, _⟩ := hv
    exact ⟨cs, h1, h2⟩
  obtain ⟨cs, rfl, hsz⟩ := hv'
  rw [c26] at hsz
  obtain ⟨fuel, hf⟩ := h
  obtain ⟨xs, m, rfl, hx, hlen, hn, hel⟩ := DataW.trod_array Tryd.underlying24 hf
  have each : ∀ i, i < 2 → ∃ n : Nat, n < 18446744073709551616 ∧ cs[i]? = some (.int .u64 (n : Int)) := by
    intro i hi
    have hi' : i < xs.length := by rw [hn]; exact hi
    have h1 := hel i hi
    rw [List.getElem?_eq_getElem hi', c24, Nat.mul_one] at h1
    obtain ⟨z, e1, _, hz⟩ := DataW.trod_int Tryd.underlying22 h1
    have hlt : i < cs.size := by rw [hsz]; exact hi
    have e2 : (cs.toList.drop i).take 1 = [cs[i]] := by
      rw [List.drop_eq_getElem_cons (by simpa using hlt)]
      simp
    have e3 : [cs[i]] = [Value.int .u64 z] := e2.symm.trans e1
    have e4 : cs[i] = Value.int .u64 z := by simpa using e3
    obtain ⟨b1, b2⟩ := bounds_u64 hz
    refine ⟨z.toNat, by omega, ?_⟩
    rw [Array.getElem?_eq_getElem hlt, e4, Int.toNat_of_nonneg b1]
  obtain ⟨a, ha, ea⟩ := each 0 (by omega)
  obtain ⟨b, hb, eb⟩ := each 1 (by omega)
  refine ⟨a, b, ha, hb, ?_⟩
  unfold rw2
  refine congrArg Value.agg ?_
  apply Array.ext_getElem?
  intro i
  match i with
  | 0 => rw [ea]; rfl
  | 1 => rw [eb]; rfl
  | i + 2 => rw [Array.getElem?_eq_none (by omega), Array.getElem?_eq_none (by simp)]

end Go.Proofs.YtlkkninnfiaedaaDoor

namespace Go.Proofs.YtlkkninnfiaedaaDoor.Sh
open Go.ChangeShapes Go.WideShapes Go.RowKit

theorem own : ownKnob Tryd.prog.godebug = none := by kernel_rfl
theorem laidOut : laidOutB Tryd.prog = true := by kernel_rfl
theorem gFirst : Tryd.prog.globalNamed "trefoil/sha.first" = some 0 := by kernel_rfl
theorem gRoots : Tryd.prog.globalNamed "trefoil/sha.roots" = some 1 := by kernel_rfl
theorem tFirst : (Tryd.prog.globals[0]?).map (·.type) = some 102 := by kernel_rfl
theorem tRoots : (Tryd.prog.globals[1]?).map (·.type) = some 160 := by kernel_rfl

def laid2 : List (String × DataW Unit) := [("trefoil/sha.first", Rows.laid_trefoil_sha_first), ("trefoil/sha.roots", Rows.laid_trefoil_sha_roots)]

theorem door_met (os : Os) (args : Array Value) : laidMetH Tryd.prog laid2 ((World.doorLaid Tryd.prog 19 os).forCall (fun _ _ => 0) ⟨#[], args, []⟩).memory :=
  laidMetH_of_parts3 (fuel := 8) (laidMet_of_run' 8 (by kernel_rfl) (by kernel_rfl)) (by kernel_rfl) (by kernel_rfl)

def ints (l : List Nat) : List Int := l.map (fun n : Nat => (n : Int))

theorem table_cell {W : World} {name : String} {g i : Nat} {cs : Array Value} {l : List Nat} (hg : Tryd.prog.globalNamed name = some g) (hv : W.var? Tryd.prog name = some cs) (hc : cs.toList = (ints l).map fun z => Value.int .u32 z) (hi : i < l.length) :
    W.cell? ⟨g, i, none⟩ = some (.int .u32 (at0 l i : Nat)) := by
  have := World.var?_cell hg hv i
  obtain ⟨cl⟩ := cs
  simp only at hc
  subst hc
  rw [this]
  simp [ints, get_at0 hi]

theorem of_laid {W : World} (h : laidMetH Tryd.prog laid2 W) : Laid W := by
  rw [MakeChecks.laidMetH_plain _ _ _ (by kernel_rfl)] at h
  obtain ⟨ps, ⟨g0, t0, cs0, f0, p0, q0, hg0, ht0, hv0, hd0, ⟨g1, t1, cs1, f1, p1, q1, hg1, ht1, hv1, hd1, _, _⟩, _⟩, _, _⟩ := h
  obtain rfl := Option.some.inj (gFirst.symm.trans hg0)
  obtain rfl := Option.some.inj (gRoots.symm.trans hg1)
  obtain rfl := Option.some.inj (tFirst.symm.trans ht0)
  obtain rfl := Option.some.inj (tRoots.symm.trans ht1)
  have e0 : cs0.toList = (ints FIRST).map fun z => Value.int .u32 z := Lib.cells_of_tab (zs := ints FIRST) Tryd.underlying102 Tryd.underlying85 (by kernel_rfl) (by kernel_rfl) hd0
  have e1 : cs1.toList = (ints ROOTS).map fun z => Value.int .u32 z := Lib.cells_of_tab (zs := ints ROOTS) Tryd.underlying160 Tryd.underlying85 (by kernel_rfl) (by kernel_rfl) hd1
  exact ⟨fun i hi => table_cell hg0 hv0 e0 hi, fun i hi => table_cell hg1 hv1 e1 hi⟩

end Go.Proofs.YtlkkninnfiaedaaDoor.Sh
