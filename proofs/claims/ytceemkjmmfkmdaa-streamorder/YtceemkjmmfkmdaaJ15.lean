/- A chunk's numbers; plans are such that joiners may be of them. -/
import Derived.Test.YtceemkjmmfkmdaaJ09
namespace Go.Proofs.Ytceemkjmmfkmdaa.St
open Go.RowKit
set_option maxRecDepth 100000
attribute [local go_sem] not_any

/- so many numbers of a list, round and round -/
def prt (xs : List Nat) (L s : Nat) (C : Nat) : List Nat := (List.range C).map fun i => at0 xs ((s + i) % L)
theorem prt_length (xs : List Nat) (L s C : Nat) : (prt xs L s C).length = C := by simp [prt]
theorem prt_succ (xs : List Nat) (L s C : Nat) : prt xs L s (C + 1) = prt xs L s C ++ [at0 xs ((s + C) % L)] := by rw [prt, List.range_succ, List.map_append]; rfl
theorem nl_one {w : World} {g x : Nat} (h : w.heap[g]? = some (.cells #[.int .u64 (x : Int)] 22 (0, 0))) : Nl w 1 (some ⟨g, 0, none⟩) [x] := ⟨rfl, fun j y hj => by
  match j, hj with
  | 0, hj =>
    obtain rfl := Option.some.inj hj
    refine ⟨g, 0, rfl, ?_⟩
    rw [cell_of_row w g 0 _ _ _ h]
    rfl⟩
theorem box3 {w : World} {g : Nat} {x y z : Value} {t : TypeId} (h : w.heap[g]? = some (.cells #[x, y, z] t (0, 0))) : w.cell? ⟨g, 0, none⟩ = some x ∧ w.cell? ⟨g, 1, none⟩ = some y ∧ w.cell? ⟨g, 2, none⟩ = some z := ⟨by rw [cell_of_row w g 0 _ _ _ h]; rfl, by rw [cell_of_row w g 1 _ _ _ h]; rfl, by rw [cell_of_row w g 2 _ _ _ h]; rfl⟩

set_option maxHeartbeats 4000000 in
theorem part_any (f C s L c : Nat) (a : Option Addr) (xs : List Nat) (w : World) (hx : Nl w L a xs) (hL : 0 < L) (hC : C ≤ 512) (hs : s ≤ 4096) :
    Calls Try.prog 21 #[.agg #[.int .u64 (f : Int), .int .i64 (C : Int), .int .i64 (s : Int)], .slice a L c] w fun e w' => ∃ a' c', e = .returned (.slice a' C c') ∧ Nl w' C a' (prt xs L s C) ∧ Below w.heap.size w w' := by
  have HX := hide1 hx
  have HL := hide1 hL
  clear hx hL
  go_enter Try.func21, Try.ntmps21
  go_upto_region 1 with (fail)
  generalize hX : World.alloc w _ = X
  have x0 : X.heap[w.heap.size]? = some (.cells #[.int .u64 (f : Int), .int .i64 (C : Int), .int .i64 (s : Int)] 32 (0, 0)) := by rw [← hX]; exact heap_alloc_new _ _
  have xb : Below w.heap.size w X := by rw [← hX]; exact below1 _
  obtain ⟨gv, hgv⟩ : ∃ g, g = w.heap.size := ⟨_, rfl⟩
  rw [← hgv] at x0 ⊢
  have XB := hide1 xb
  have X0 := hide1 x0
  clear hX x0 xb hgv
  go_wp2
  go_loopw [5, 6] (fun v5 v6 wr => ∃ i : Nat, i ≤ C ∧ v6 = .int .i64 i ∧ Wo X.heap.size wr v5 (prt xs L s i) ∧ Below X.heap.size X wr) (fun _ v6 _ => C - (intOf v6).toNat)
  case atStart => exact ⟨0, Nat.zero_le _, rfl, Wo.nil _ _, Below.refl _ _⟩
  case round =>
    obtain ⟨i, hi, rfl, hwo, hbe⟩ := hrel
    obtain ⟨z0, z1, z2⟩ := box3 ((hbe.block _ (lt_heap X0.out)).trans X0.out)
    have hzq := hbe.size
    by_cases hlt : i < C
    · have bi : (i : Int) < (C : Int) := by omega
      have bi2 : (i : Int) < 600 := by omega
      obtain ⟨r, hr⟩ : ∃ r, r = (s + i) % L := ⟨_, rfl⟩
      have hrl : r < L := by rw [hr]; exact Nat.mod_lt _ HL.out
      have br : (r : Int) < (L : Int) := by omega
      have e1 : IntKind.i64.wrap ((s : Int) + (i : Int)) = ((s + i : Nat) : Int) := by rw [← Int.natCast_add, wrap_i64_nat (by omega)]
      have e2 : Int.tmod ((s + i : Nat) : Int) (L : Int) = (r : Int) := by rw [Int.tmod_eq_emod_of_nonneg (by omega), hr]; rfl
      have nz : ((L : Int) == 0) = false := by rw [beq_eq_false_iff_ne]; have := HL.out; omega
      obtain ⟨g, o, rfl, hc⟩ := nl_val (HX.out.below (XB.out.trans (hbe.mono XB.out.size)) (Nat.le_refl _)) hrl
      have hsu := prt_succ xs L s i
      rw [← hr] at hsu
      obtain ⟨S, hS⟩ : ∃ S, S = s + i := ⟨_, rfl⟩
      rw [← hS] at e1 e2
      generalize at0 xs r = x at *
      obtain ⟨jo, hjo⟩ : ∃ j, j = o + r := ⟨_, rfl⟩
      rw [← hjo] at hc
      have ejo : o + r = jo := hjo.symm
      have HLE : Hid ((prt xs L s i).length + 1 ≤ 1000000) := by show _ ≤ _; rw [prt_length]; omega
      have HSU := hide1 hsu
      have WO := hide1 hwo
      have HE := hide1 hbe
      clear hr hS hjo hsu hwo hbe
      go_wp2_with (at_builtin; go_must (refine wpList_append_wo rfl (.tmp 17) (.tmp 28) rfl rfl rfl (own_below WO.out (below1 _)) (nl_one (heap_alloc_new wr _)) HLE.out (by rw [size_alloc]; omega) ?_); intro v1 W3 ho hg hf)
      have ho2 : Wo X.heap.size W3 v1 (prt xs L s (i + 1)) := by rw [HSU.out]; exact ho
      have hb3 : Below X.heap.size X W3 := (HE.out.alloc hzq _).grown hg (by rw [size_alloc]; omega) (fun b hb => (WO.out.lt b hb).1)
      have WO3 := hide1 ho2
      have HE3 := hide1 hb3
      clear ho hg hf ho2 hb3 hc z0 z1 z2
      go_wp2
      go_roundw
      case rel => exact ⟨i + 1, by omega, by go_num, WO3.out, HE3.out⟩
      case measure => simp [intOf]; omega
    · obtain rfl : i = C := by omega
      have nk : ¬ (i : Int) < (i : Int) := by omega
      obtain ⟨wa, wc, rfl⟩ := hwo.form
      have NW := hide1 (nl_own hwo)
      have HE := hide1 (XB.out.trans (hbe.mono XB.out.size))
      rw [prt_length] at NW ⊢
      clear hwo hbe
      go_wp2
      go_ret
      exact ⟨wa, ⟨wc, rfl⟩, NW.out, HE.out⟩

/- a plan's chunks are such as a joiner may be of -/
theorem goodGo_pl (F n : Nat) (hn : n ≤ 4096) : ∀ (q k : Nat), k + q = pn n → goodGo ((List.range' k q).map (chk F n)) (sm n k) = 0
  | 0, k, _ => rfl
  | q + 1, k, h => by
    have hk : k < pn n := by omega
    have h1 := sm_lt hk
    have h2 := sm_succ hk
    have h3 : 512 * k < n := by unfold pn at hk; omega
    have ih := goodGo_pl F n hn q (k + 1) (by omega)
    rw [List.range'_succ, List.map_cons, goodGo]
    have hb : ¬ badC (chk F n k) (sm n k) := by
      unfold badC
      show ¬ (((min 512 (n - 512 * k) : Nat) : Int) < 1 ∨ 512 < ((min 512 (n - 512 * k) : Nat) : Int) ∨ ((512 * k : Nat) : Int) ≠ ((sm n k : Nat) : Int))
      rw [h1]
      omega
    have hsn : sm n k + (chk F n k).ct.toNat = sm n (k + 1) := by
      show sm n k + ((min 512 (n - 512 * k) : Nat) : Int).toNat = _
      rw [h1, Int.toNat_natCast, h2]
    rw [if_neg hb, hsn, if_neg (by unfold sm; omega)]
    exact ih
theorem good_pl {F n e : Nat} (hn : n ≤ 4096) (he : e ≤ 6) : goodC (pl F n) (e : Int) = 0 := by
  unfold goodC
  rw [if_neg (by omega), pl, List.range_eq_range']
  have h := goodGo_pl F n hn (pn n) 0 (by omega)
  rwa [sm_zero] at h
end Go.Proofs.Ytceemkjmmfkmdaa.St
