/- Lists of seeds, and of pairs of seeds, opened. Lists of words, and of truths with their room, opened. -/
import Derived.Test.YtdmodknjcdkocaaJ23
import Derived.Test.YtdmodknjcdkocaaJ49
import Derived.Test.YtdmodknjcdkocaaJ33
import Derived.Test.YtdmodknjcdkocaaJ29
import Derived.Deep.Grids
namespace Go.Proofs.Ytdmodknjcdkocaa.Ro
open Go.ChangeShapes Go.WideShapes Go.RowKit Go.Deep Pg
set_option maxRecDepth 100000

theorem cells_seed : Try.prog.cellsOf 46 = 32 := by kernel_rfl
theorem cells_pair : Try.prog.cellsOf 48 = 64 := by kernel_rfl
theorem cells_u8 : Try.prog.cellsOf 5 = 1 := by kernel_rfl
theorem two_seeds {α : Type} (l : List α) (h : l.length = 2) : ∃ a b, l = [a, b] := by
  match l, h with
  | [a, b], _ => exact ⟨a, b, rfl⟩
theorem zeros_good : (zeros 32).length = 32 ∧ Lt 256 (zeros 32) := by
  refine ⟨by decide, ?_⟩
  unfold Lt
  decide

/- the cells of one seed -/
theorem seed_cells {H : Type} {enc : TypeId × Value → H} {W : World} {held : Bool} {fuel : Nat} {cs : List Value} {x : DataW H × List MemPlace} (hl : cs.length = 32) (h : DataW.trod enc Try.prog W 0 (fun _ => true) held fuel 46 cs = some x) :
    ∃ l : List Nat, (l.length = 32 ∧ Lt 256 l) ∧ cs = u8s l := by
  obtain ⟨xs, m, rfl, hx, hlen, hn, hel⟩ := DataW.trod_array Try.underlying46 h
  have each : ∀ i, i < 32 → ∃ n : Nat, n < 256 ∧ cs[i]? = some (.int .u8 (n : Int)) := by
    intro i hi
    have hi' : i < xs.length := by rw [hn]; exact hi
    have h1 := hel i hi
    rw [List.getElem?_eq_getElem hi', cells_u8, Nat.mul_one] at h1
    obtain ⟨z, e1, _, hz⟩ := DataW.trod_int Try.underlying5 h1
    have hlt : i < cs.length := by omega
    have e2 : (cs.drop i).take 1 = [cs[i]] := by
      rw [List.drop_eq_getElem_cons hlt]
      rfl
    have e3 : [cs[i]] = [Value.int .u8 z] := e2.symm.trans e1
    have e4 : cs[i] = Value.int .u8 z := by simpa using e3
    obtain ⟨b1, b2⟩ := bounds_u8 hz
    refine ⟨z.toNat, by omega, ?_⟩
    rw [List.getElem?_eq_getElem hlt, e4, Int.toNat_of_nonneg b1]
  have pick : ∃ f : Nat → Nat, ∀ i, i < 32 → f i < 256 ∧ cs[i]? = some (.int .u8 (f i : Int)) :=
    ⟨fun i => if h : i < 32 then (each i h).choose else 0, fun i hi => by
      simp only [hi, dif_pos]
      exact (each i hi).choose_spec⟩
  obtain ⟨f, hf2⟩ := pick
  refine ⟨(List.range 32).map f, ⟨by simp, ?_⟩, ?_⟩
  · intro x hx
    simp only [List.mem_map, List.mem_range] at hx
    obtain ⟨i, hi, rfl⟩ := hx
    exact (hf2 i hi).1
  · apply List.ext_getElem?
    intro i
    by_cases hi : i < 32
    · rw [(hf2 i hi).2]
      simp [u8s, hi]
    · rw [List.getElem?_eq_none (by omega), List.getElem?_eq_none (by simp [u8s]; omega)]

theorem add_none (g o j : Nat) : (⟨g, o, none⟩ : Addr).add j = ⟨g, o + j, none⟩ := by unfold Addr.add; split <;> simp_all

theorem open_seeds {H : Type} {enc : TypeId × Value → H} {W : World} {held : Bool} {fuel : Nat} {a : Option Addr} {len cap : Nat} {x : DataW H × List MemPlace} (h : DataW.trod enc Try.prog W 0 (fun _ => true) held fuel 34 [.slice a len cap] = some x) : ∃ f, Sd W len a f := by
  rcases open_slice Try.underlying34 h with ⟨h0, _⟩ | ⟨ad, len', cap', m, n, D, Pl, hcs, _, hl, _, hmm, hx0, hx⟩
  · cases h0
    exact ⟨fun _ => zeros 32, fun j hj => by omega, fun _ => zeros_good⟩
  cases hcs
  have hlm : len ≤ m := by rw [hmm]; split <;> omega
  have each : ∀ j, ∃ q : List Nat, (q.length = 32 ∧ Lt 256 q) ∧ (j < len → ∃ g o, ad = ⟨g, o, none⟩ ∧ g < W.heap.size ∧ W.rangeAt g (o + j * 32) (u8s q)) := by
    intro j
    by_cases hj : j < len
    · obtain ⟨cs', h1, h2⟩ := hx j (by omega)
      rw [cells_seed] at h1
      obtain ⟨_, hlen, hcell⟩ := World.cells?_some h1
      obtain ⟨q, hq, rfl⟩ := seed_cells hlen h2
      have hsp : ad.spot = none := by
        obtain ⟨cs0, k1, k2⟩ := hx 0 (by omega)
        rw [cells_seed] at k1
        obtain ⟨_, klen, kcell⟩ := World.cells?_some k1
        obtain ⟨c0, hc0⟩ : ∃ c, cs0[0]? = some c := ⟨_, List.getElem?_eq_getElem (by omega)⟩
        have k0 := (kcell 0 (by omega)).trans hc0
        rw [add_add] at k0
        have := World.cell?_spot k0
        simpa [Addr.add] using this
      obtain ⟨g, o, sp0⟩ := ad
      simp only at hsp
      subst hsp
      refine ⟨q, hq, fun _ => ⟨g, o, rfl, ?_, fun i v hi => ?_⟩⟩
      · obtain ⟨c0, hc0⟩ : ∃ c, (u8s q)[0]? = some c := ⟨_, List.getElem?_eq_getElem (by omega)⟩
        have k0 := (hcell 0 (by omega)).trans hc0
        rw [add_add, add_none] at k0
        exact T.lt_cell k0
      · have hi2 : i < 32 := by
          have := (List.getElem?_eq_some_iff.1 hi).1
          omega
        have k0 := (hcell i hi2).trans hi
        rw [add_add, add_none, ← Nat.add_assoc] at k0
        exact k0
    · exact ⟨zeros 32, zeros_good, fun h => absurd h hj⟩
  refine ⟨fun j => Classical.choose (each j), fun j hj => ?_, fun j => (Classical.choose_spec (each j)).1⟩
  obtain ⟨_, h3⟩ := Classical.choose_spec (each j)
  obtain ⟨g, o, rfl, hg, hr⟩ := h3 hj
  exact ⟨g, o, rfl, hg, hr⟩

theorem open_pairs {H : Type} {enc : TypeId × Value → H} {W : World} {held : Bool} {fuel : Nat} {a : Option Addr} {len cap : Nat} {x : DataW H × List MemPlace} (h : DataW.trod enc Try.prog W 0 (fun _ => true) held fuel 22 [.slice a len cap] = some x) : ∃ f, Pd W len a f := by
  rcases open_slice Try.underlying22 h with ⟨h0, _⟩ | ⟨ad, len', cap', m, n, D, Pl, hcs, _, hl, _, hmm, hx0, hx⟩
  · cases h0
    exact ⟨fun _ => zeros 32, fun j hj => by omega, fun _ => zeros_good⟩
  cases hcs
  have hlm : len ≤ m := by rw [hmm]; split <;> omega
  have each : ∀ j, ∃ q : List Nat × List Nat, (q.1.length = 32 ∧ Lt 256 q.1) ∧ (q.2.length = 32 ∧ Lt 256 q.2) ∧ (j < len → ∃ g o, ad = ⟨g, o, none⟩ ∧ g < W.heap.size ∧ W.rangeAt g (o + j * 64) (u8s q.1) ∧ W.rangeAt g (o + j * 64 + 32) (u8s q.2)) := by
    intro j
    by_cases hj : j < len
    · obtain ⟨cs', h1, h2⟩ := hx j (by omega)
      rw [cells_pair] at h1
      obtain ⟨_, hlen, hcell⟩ := World.cells?_some h1
      obtain ⟨xs, k, hk, hxy, _, hxl, hf⟩ := DataW.trod_struct Try.underlying48 h2
      have hxl' : xs.length = 2 := hxl
      clear hxl
      obtain ⟨y0, y1, rfl⟩ := two_seeds xs hxl'
      have g0 : DataW.trod enc Try.prog W 0 (fun _ => true) held k 46 ((cs'.drop 0).take (Try.prog.cellsOf 46)) = some y0 := hf 0 _ rfl
      have g1 : DataW.trod enc Try.prog W 0 (fun _ => true) held k 46 ((cs'.drop 32).take (Try.prog.cellsOf 46)) = some y1 := hf 1 _ rfl
      rw [cells_seed] at g0 g1
      rw [List.drop_zero] at g0
      obtain ⟨q, hq, eq⟩ := seed_cells (by rw [List.length_take, hlen]; omega) g0
      obtain ⟨r, hr, er⟩ := seed_cells (by rw [List.length_take, List.length_drop, hlen]; omega) g1
      have hsp : ad.spot = none := by
        obtain ⟨cs0, k1, k2⟩ := hx 0 (by omega)
        rw [cells_pair] at k1
        obtain ⟨_, klen, kcell⟩ := World.cells?_some k1
        obtain ⟨c0, hc0⟩ : ∃ c, cs0[0]? = some c := ⟨_, List.getElem?_eq_getElem (by omega)⟩
        have k0 := (kcell 0 (by omega)).trans hc0
        rw [add_add] at k0
        have := World.cell?_spot k0
        simpa [Addr.add] using this
      obtain ⟨g, o, sp0⟩ := ad
      simp only at hsp
      subst hsp
      refine ⟨(q, r), hq, hr, fun _ => ⟨g, o, rfl, ?_, fun i v hi => ?_, fun i v hi => ?_⟩⟩
      · obtain ⟨c0, hc0⟩ : ∃ c, cs'[0]? = some c := ⟨_, List.getElem?_eq_getElem (by omega)⟩
        have k0 := (hcell 0 (by omega)).trans hc0
        rw [add_add, add_none] at k0
        exact T.lt_cell k0
      · have hi2 : i < 32 := by
          have h3 := (List.getElem?_eq_some_iff.1 hi).1
          have h4 : (u8s (q, r).1).length = 32 := (u8s_length q).trans hq.1
          omega
        have e5 : cs'[i]? = some v := by
          have h3 : (u8s q)[i]? = some v := hi
          rw [← eq, List.getElem?_take, if_pos hi2] at h3
          exact h3
        have k0 := (hcell i (by omega)).trans e5
        rw [add_add, add_none, ← Nat.add_assoc] at k0
        exact k0
      · have hi2 : i < 32 := by
          have h3 := (List.getElem?_eq_some_iff.1 hi).1
          have h4 : (u8s (q, r).2).length = 32 := (u8s_length r).trans hr.1
          omega
        have e5 : cs'[32 + i]? = some v := by
          have h3 : (u8s r)[i]? = some v := hi
          rw [← er, List.getElem?_take, if_pos hi2, List.getElem?_drop] at h3
          exact h3
        have k0 := (hcell (32 + i) (by omega)).trans e5
        rw [add_add, add_none, show o + (j * 64 + (32 + i)) = o + j * 64 + 32 + i by omega] at k0
        exact k0
    · exact ⟨(zeros 32, zeros 32), zeros_good, zeros_good, fun h => absurd h hj⟩
  refine ⟨fun i => if i % 2 = 0 then (Classical.choose (each (i / 2))).1 else (Classical.choose (each (i / 2))).2, fun j hj => ?_, fun i => ?_⟩
  · obtain ⟨_, _, h3⟩ := Classical.choose_spec (each j)
    obtain ⟨g, o, rfl, hg, hr, hr2⟩ := h3 hj
    refine ⟨g, o, rfl, hg, ?_, ?_⟩
    · simp only [show 2 * j % 2 = 0 by omega, show 2 * j / 2 = j by omega, if_true]; exact hr
    · simp only [show (2 * j + 1) % 2 = 1 by omega, show (2 * j + 1) / 2 = j by omega, Nat.one_ne_zero, if_false]; exact hr2
  · obtain ⟨h1, h2, _⟩ := Classical.choose_spec (each (i / 2))
    by_cases hp : i % 2 = 0
    · simp only [if_pos hp]; exact h1
    · simp only [if_neg hp]; exact h2
end Go.Proofs.Ytdmodknjcdkocaa.Ro

namespace Go.Proofs.Ytdmodknjcdkocaa.Co
open Go.ChangeShapes Go.WideShapes Go.RowKit Go.Deep

theorem cells_w : Try.prog.cellsOf 49 = 1 := by kernel_rfl
theorem open_words {H : Type} {enc : TypeId × Value → H} {W : World} {held : Bool} {fuel : Nat} {a : Option Addr} {len cap : Nat} {x : DataW H × List MemPlace} (h : DataW.trod enc Try.prog W 0 (fun _ => true) held fuel 23 [.slice a len cap] = some x) :
    ∃ ws : List Nat, T.Nl W len a ws ∧ Ri.Small ws := by
  rcases open_ints Try.underlying23 Try.underlying49 cells_w h with ⟨h0, _⟩ | ⟨ad, l', c', zs, hcs, _, hl, hm, hz, _, hcell, hwz⟩
  · cases h0
    exact ⟨[], ⟨rfl, fun j x hj => by simp at hj⟩, fun j x hj => by simp at hj⟩
  · cases hcs
    have hz' : zs.length = cap := by simpa using hz
    have hb : ∀ j, j < zs.length → 0 ≤ zs.getD j 0 ∧ zs.getD j 0 ≤ 18446744073709551615 := fun j hj => by
      have hmem : zs.getD j 0 ∈ zs := by
        rw [List.getD_eq_getElem?_getD, List.getElem?_eq_getElem hj]
        exact List.getElem_mem hj
      exact bounds_u64 (hwz _ hmem)
    have hget : ∀ (j x : Nat), ((List.range len).map (fun i => (zs.getD i 0).toNat))[j]? = some x → j < len ∧ x = (zs.getD j 0).toNat := fun j x hj => by
      have hjl : j < len := by
        have := (List.getElem?_eq_some_iff.1 hj).1
        simpa using this
      rw [List.getElem?_map, List.getElem?_range hjl] at hj
      exact ⟨hjl, (Option.some.inj hj).symm⟩
    refine ⟨(List.range len).map (fun i => (zs.getD i 0).toNat), ⟨by simp, fun j x hj => ?_⟩, fun j x hj => ?_⟩
    · obtain ⟨hjl, rfl⟩ := hget j x hj
      have hc := hcell j (by omega)
      have hsp : ad.spot = none := by
        have := World.cell?_spot (hcell 0 (by omega))
        simpa [Addr.add] using this
      obtain ⟨g, o, sp0⟩ := ad
      simp only at hsp
      subst hsp
      refine ⟨g, o, rfl, ?_⟩
      have e : (⟨g, o, none⟩ : Addr).add j = ⟨g, o + j, none⟩ := by unfold Addr.add; split <;> simp_all
      rw [e] at hc
      rw [hc]
      have := hb j (by omega)
      congr 2
      omega
    · obtain ⟨hjl, rfl⟩ := hget j x hj
      have := hb j (by omega)
      omega

theorem bl_cap {H : Type} {enc : TypeId × Value → H} {W : World} {held : Bool} {fuel : Nat} {a : Option Addr} {len cap : Nat} {x : DataW H × List MemPlace} (h : DataW.trod enc Try.prog W 0 (fun _ => true) held fuel 35 [.slice a len cap] = some x) : len ≤ cap := by
  rcases open_bools Try.underlying35 Try.underlying4 T.cells4 h with ⟨h0, _⟩ | ⟨ad, l', c', B, hcs, _, hl, _⟩
  · cases h0
    exact Nat.le_refl _
  · cases hcs
    exact hl
theorem nl_cap {H : Type} {enc : TypeId × Value → H} {W : World} {held : Bool} {fuel : Nat} {a : Option Addr} {len cap : Nat} {x : DataW H × List MemPlace} (h : DataW.trod enc Try.prog W 0 (fun _ => true) held fuel 23 [.slice a len cap] = some x) : len ≤ cap := by
  rcases open_ints Try.underlying23 Try.underlying49 cells_w h with ⟨h0, _⟩ | ⟨ad, l', c', zs, hcs, _, hl, _⟩
  · cases h0
    exact Nat.le_refl _
  · cases hcs
    exact hl
end Go.Proofs.Ytdmodknjcdkocaa.Co
