/- How the arguments are opened. -/
import Derived.Test.YtmmhfipdolbinaaWk
import Derived.ProofKit
import Derived.OpenShut
import Derived.ShutString
import Derived.ChangeOld
import Derived.ChangeMaps5
import Derived.Below
import Derived.Deep.Grids
import Derived.Deep.Slices
namespace Go.Proofs.Ytmmhfipdolbinaa
open Go.ChangeShapes Go.WideShapes Go.RowKit Go.Deep

theorem own : ownKnob Try.prog.godebug = none := by kernel_rfl
theorem laidOut : laidOutB Try.prog = true := by kernel_rfl
theorem cells4 : Try.prog.cellsOf 4 = 1 := by kernel_rfl
theorem cells64 : Try.prog.cellsOf 28 = 1 := by kernel_rfl

theorem open_bl {H : Type} {enc : TypeId × Value → H} {W : World} {held : Bool} {fuel : Nat} {a : Option Addr} {len cap : Nat} {x : DataW H × List MemPlace} (h : DataW.trod enc Try.prog W 0 (fun _ => true) held fuel 30 [.slice a len cap] = some x) :
    ∃ l : List Bool, Bl W len a l := by
  rcases open_bools Try.underlying30 Try.underlying4 cells4 h with ⟨h0, _⟩ | ⟨ad, l', c', B, hcs, _, hl, _, _, hcell⟩
  · cases h0
    exact ⟨[], rfl, fun j x hj => by simp at hj⟩
  · cases hcs
    refine ⟨(List.range len).map B, by simp, fun j x hj => ?_⟩
    have hjl : j < len := by
      have := (List.getElem?_eq_some_iff.1 hj).1
      simpa using this
    have hx : x = B j := by
      simp [hjl] at hj
      exact hj.symm
    subst hx
    have hc := hcell j (by omega)
    have hsp : ad.spot = none := by
      have := World.cell?_spot (hcell 0 (by omega))
      simpa [Addr.add] using this
    obtain ⟨g, o, sp0⟩ := ad
    simp only at hsp
    subst hsp
    refine ⟨g, o, rfl, ?_⟩
    have e : (⟨g, o, none⟩ : Addr).add j = ⟨g, o + j, none⟩ := by unfold Addr.add; split <;> simp_all
    rwa [e] at hc

theorem open_nl {H : Type} {enc : TypeId × Value → H} {W : World} {held : Bool} {fuel : Nat} {a : Option Addr} {len cap : Nat} {x : DataW H × List MemPlace} (h : DataW.trod enc Try.prog W 0 (fun _ => true) held fuel 29 [.slice a len cap] = some x) :
    ∃ ws : List Nat, Nl W len a ws ∧ ∀ (j x : Nat), ws[j]? = some x → x < 18446744073709551616 := by
  rcases open_ints Try.underlying29 Try.underlying28 cells64 h with ⟨h0, _⟩ | ⟨ad, l', c', zs, hcs, _, hl, hm, hz, _, hcell, hwz⟩
  · cases h0
    exact ⟨[], ⟨rfl, fun j x hj => by simp at hj⟩, fun j x hj => by simp at hj⟩
  · cases hcs
    have hz' : zs.length = cap := by simpa using hz
    have hb : ∀ j, j < zs.length → 0 ≤ zs.getD j 0 ∧ zs.getD j 0 ≤ 18446744073709551615 := fun j hj => by
      have hmem : zs.getD j 0 ∈ zs := by
        rw [List.getD_eq_getElem?_getD, List.getElem?_eq_getElem hj]
        exact List.getElem_mem hj
      exact bounds_u64 (hwz _ hmem)
    have hget : ∀ (j x : Nat), ((List.range len).map (fun i => (zs.getD i 0).toNat))[j]? = some x → j < len ∧ x = (zs.getD j 0).toNat := fun j x hj => by
      have hjl : j < len := by
        have := (List.getElem?_eq_some_iff.1 hj).1
        simpa using this
      rw [List.getElem?_map, List.getElem?_range hjl] at hj
      exact ⟨hjl, (Option.some.inj hj).symm⟩
    refine ⟨(List.range len).map (fun i => (zs.getD i 0).toNat), ⟨by simp, fun j x hj => ?_⟩, fun j x hj => ?_⟩
    · obtain ⟨hjl, rfl⟩ := hget j x hj
      have hc := hcell j (by omega)
      have hsp : ad.spot = none := by
        have := World.cell?_spot (hcell 0 (by omega))
        simpa [Addr.add] using this
      obtain ⟨g, o, sp0⟩ := ad
      simp only at hsp
      subst hsp
      refine ⟨g, o, rfl, ?_⟩
      have e : (⟨g, o, none⟩ : Addr).add j = ⟨g, o + j, none⟩ := by unfold Addr.add; split <;> simp_all
      rw [e] at hc
      rw [hc]
      have := hb j (by omega)
      congr 2
      omega
    · obtain ⟨hjl, rfl⟩ := hget j x hj
      have := hb j (by omega)
      omega


theorem cellsIt : Try.prog.cellsOf 32 = 6 := by kernel_rfl
theorem cells3 : Try.prog.cellsOf 3 = 1 := by kernel_rfl
theorem cells9 : Try.prog.cellsOf 9 = 1 := by kernel_rfl
theorem cellsL : Try.prog.cellsOf 29 = 1 := by kernel_rfl
theorem cellsB : Try.prog.cellsOf 30 = 1 := by kernel_rfl

theorem weights_mem {H : Type} {P : Program} {e : TypeId} {R : Nat} : ∀ (l : List (DataW H)) (d : DataW H), (DataW.weightsAll P e l).all (· ≤ R) = true → d ∈ l → (d.weights P e).all (· ≤ R) = true
  | x :: l, d, h, hd => by
    have h' : (DataW.weights P e x ++ DataW.weightsAll P e l).all (· ≤ R) = true := h
    rw [List.all_append, Bool.and_eq_true] at h'
    rcases List.mem_cons.1 hd with rfl | hd
    · exact h'.1
    · exact weights_mem l d h'.2 hd

/- how long a slice is, by its weights -/
theorem len_weights {H : Type} {enc : TypeId × Value → H} {W : World} {held : Bool} {fuel : Nat} {t e : TypeId} {a : Option Addr} {len cap R : Nat} {x : DataW H × List MemPlace} (ht : Try.prog.underlying t = some (.slice e)) (hb : 0 < Try.prog.bytesOf e)
    (h : DataW.trod enc Try.prog W 0 (fun _ => true) held fuel t [.slice a len cap] = some x) (hw : (x.1.weights Try.prog t).all (· ≤ R) = true) : len ≤ R := by
  rcases open_slice ht h with ⟨h0, _⟩ | ⟨ad, len', cap', m, n, D, Pl, hcs, _, hl, _, hmm, hx, _⟩
  · cases h0
    exact Nat.zero_le _
  · cases hcs
    rw [hx] at hw
    simp only [DataW.weights, ht, List.all_cons, Bool.and_eq_true, List.length_map, List.length_range] at hw
    have h1 : (len + (m - len)) * Try.prog.bytesOf e ≤ R := by simpa using hw.1
    exact Nat.le_trans (Nat.le_trans (Nat.le_add_right _ _) (Nat.le_mul_of_pos_right _ hb)) h1

theorem six_list {α : Type} (l : List α) (h : l.length = 6) : ∃ a b c d e f, l = [a, b, c, d, e, f] := by
  match l, h with
  | [a, b, c, d, e, f], _ => exact ⟨a, b, c, d, e, f, rfl⟩
theorem slice_cell {H : Type} {enc : TypeId × Value → H} {W : World} {held : Bool} {fuel : Nat} {t e : TypeId} {v : Value} {x : DataW H × List MemPlace} (ht : Try.prog.underlying t = some (.slice e))
    (h : DataW.trod enc Try.prog W 0 (fun _ => true) held fuel t [v] = some x) : ∃ a len cap, v = .slice a len cap := by
  rcases open_slice ht h with ⟨h0, _⟩ | ⟨ad, len', cap', m, n, D, Pl, hcs, _⟩
  · simp only [List.cons.injEq, and_true] at h0
    exact ⟨_, _, _, h0⟩
  · simp only [List.cons.injEq, and_true] at hcs
    exact ⟨_, _, _, hcs⟩

instance : Inhabited It := ⟨⟨0, 0, ⟨#[]⟩, 0, none, 0, 0, [], none, 0, 0, []⟩⟩

set_option maxHeartbeats 1000000 in
theorem open_items {H : Type} {enc : TypeId × Value → H} {W : World} {held : Bool} {fuel : Nat} {a : Option Addr} {len cap : Nat} {x : DataW H × List MemPlace} (h : DataW.trod enc Try.prog W 0 (fun _ => true) held fuel 22 [.slice a len cap] = some x)
    (hw : (x.1.weights Try.prog 22).all (· ≤ reachBytes) = true) :
    ∃ l : List It, Its W len a l ∧ (∀ i ∈ l, Held i) ∧ len ≤ 281474976710656 := by
  have hlen := len_weights Try.underlying22 (by decide +kernel) h hw
  rcases open_slice Try.underlying22 h with ⟨h0, _⟩ | ⟨ad, len', cap', m, n, D, Pl, hcs, _, hl, _, hmm, hx0, hx⟩
  · cases h0
    exact ⟨[], ⟨rfl, fun k r hk => by simp at hk⟩, fun i hi => (by cases hi), by omega⟩
  cases hcs
  have hlm : len ≤ m := by rw [hmm]; split <;> omega
  have hwD : ∀ i, i < len → ((D i).weights Try.prog 32).all (· ≤ reachBytes) = true := by
    intro i hi
    rw [hx0] at hw
    simp only [DataW.weights, Try.underlying22, List.all_cons, List.all_append, Bool.and_eq_true] at hw
    exact weights_mem _ _ hw.2.1 (List.mem_map.2 ⟨i, List.mem_range.2 hi, rfl⟩)
  have each : ∀ i, i < len → ∃ q : It, (W.cell? (ad.add (i * 6)) = some (.int .i64 q.kind) ∧ W.cell? (ad.add (i * 6 + 1)) = some (.int .u64 (q.x : Int)) ∧ W.cell? (ad.add (i * 6 + 2)) = some (.string q.s) ∧
      W.cell? (ad.add (i * 6 + 3)) = some (.int .i64 q.width) ∧ W.cell? (ad.add (i * 6 + 4)) = some (.slice q.la q.ln q.lc) ∧ W.cell? (ad.add (i * 6 + 5)) = some (.slice q.ba q.bn q.bc)) ∧
      Nl W q.ln q.la q.ws ∧ Bl W q.bn q.ba q.bs ∧ (q.x < 18446744073709551616 ∧ ∀ y ∈ q.ws, y < 18446744073709551616) ∧ Held q := by
    intro i hi
    have hwi := hwD i hi
    obtain ⟨cs', h1, h2⟩ := hx i (by omega)
    rw [cellsIt] at h1
    obtain ⟨_, hlen6, hcell⟩ := World.cells?_some h1
    obtain ⟨xs, k, hk, hxy, _, hxl, hf⟩ := DataW.trod_struct Try.underlying32 h2
    have hxl' : xs.length = 6 := hxl
    clear hxl
    obtain ⟨y0, y1, y2, y3, y4, y5, rfl⟩ := six_list xs hxl'
    obtain ⟨v0, v1, v2, v3, v4, v5, rfl⟩ := six_list cs' hlen6
    have g0 := hf 0 _ rfl
    have g1 := hf 1 _ rfl
    have g2 := hf 2 _ rfl
    have g3 := hf 3 _ rfl
    have g4 := hf 4 _ rfl
    have g5 := hf 5 _ rfl
    simp [cells3, cells64, cells9, cellsL, cellsB] at g0 g1 g2 g3 g4 g5
    have hD : D i = .agg [y0.1, y1.1, y2.1, y3.1, y4.1, y5.1] := by
      have := congrArg Prod.fst hxy
      simpa using this
    rw [hD] at hwi
    simp only [DataW.weights, Try.underlying32] at hwi
    have hwi' : (y0.1.weights Try.prog 3 ++ (y1.1.weights Try.prog 28 ++ (y2.1.weights Try.prog 9 ++ (y3.1.weights Try.prog 3 ++ (y4.1.weights Try.prog 29 ++ (y5.1.weights Try.prog 30 ++ [])))))).all (· ≤ reachBytes) = true := by
      simpa [DataW.weightsEach] using hwi
    simp only [List.all_append, Bool.and_eq_true] at hwi'
    obtain ⟨_, _, hw2, _, hw4, hw5, _⟩ := hwi'
    obtain ⟨q0, e0, _, _⟩ := DataW.trod_int Try.underlying3 g0
    obtain ⟨q1, e1, _, wf1⟩ := DataW.trod_int Try.underlying28 g1
    obtain ⟨q2, e2, x2, _⟩ := DataW.trod_string Try.underlying9 g2
    obtain ⟨q3, e3, _, _⟩ := DataW.trod_int Try.underlying3 g3
    simp only [List.cons.injEq, and_true] at e0 e1 e2 e3
    subst e0; subst e1; subst e2; subst e3
    obtain ⟨la, ln, lc, rfl⟩ := slice_cell Try.underlying29 g4
    obtain ⟨ba, bn, bc, rfl⟩ := slice_cell Try.underlying30 g5
    have l4 := len_weights Try.underlying29 (by decide +kernel) g4 hw4
    have l5 := len_weights Try.underlying30 (by decide +kernel) g5 hw5
    obtain ⟨ws, nl, sm⟩ := open_nl g4
    obtain ⟨bs, bl⟩ := open_bl g5
    have b1 := bounds_u64 wf1
    have l2 : q2.size ≤ reachBytes := by
      rw [x2] at hw2
      simpa [DataW.weights] using hw2
    have c0 := hcell 0 (by omega)
    have c1 := hcell 1 (by omega)
    have c2 := hcell 2 (by omega)
    have c3 := hcell 3 (by omega)
    have c4 := hcell 4 (by omega)
    have c5 := hcell 5 (by omega)
    rw [add_add] at c0 c1 c2 c3 c4 c5
    have eq1 : ((q1.toNat : Nat) : Int) = q1 := by omega
    unfold reachBytes at l2 l4 l5
    refine ⟨⟨q0, q1.toNat, q2, q3, la, ln, lc, ws, ba, bn, bc, bs⟩, ⟨by simpa using c0, ?_, by simpa using c2, by simpa using c3, by simpa using c4, by simpa using c5⟩, nl, bl, ⟨by show q1.toNat < _; omega, fun y hy => ?_⟩, ⟨by show q2.size ≤ _; omega, by show ln ≤ _; omega, by show bn ≤ _; omega⟩⟩
    · dsimp only
      rw [eq1]
      simpa using c1
    · obtain ⟨j, hj⟩ := List.mem_iff_getElem?.1 hy
      exact sm j y hj
  obtain ⟨q, hq⟩ := choose_lt each
  refine ⟨(List.range len).map q, ⟨by simp, fun k r hk => ?_⟩, fun i hi => ?_, by unfold reachBytes at hlen; omega⟩
  · have hkl : k < len := by
      have := (List.getElem?_eq_some_iff.1 hk).1
      simpa using this
    have hr : r = q k := by
      simp [hkl] at hk
      exact hk.symm
    subst hr
    have hsp : ad.spot = none := by
      have := World.cell?_spot (hq 0 (by omega)).1.1
      simpa [Addr.add] using this
    obtain ⟨g, o, sp0⟩ := ad
    simp only at hsp
    subst hsp
    obtain ⟨⟨c0, c1, c2, c3, c4, c5⟩, nl, bl, hsm, _⟩ := hq k hkl
    rw [addr_add] at c0 c1 c2 c3 c4 c5
    exact ⟨⟨g, o, rfl, ⟨c0, by simpa [Nat.add_assoc] using c1, by simpa [Nat.add_assoc] using c2, by simpa [Nat.add_assoc] using c3, by simpa [Nat.add_assoc] using c4, by simpa [Nat.add_assoc] using c5⟩⟩, nl, bl, hsm⟩
  · obtain ⟨k, hk, rfl⟩ := List.mem_map.1 hi
    exact (hq k (List.mem_range.1 hk)).2.2.2.2
end Go.Proofs.Ytmmhfipdolbinaa
