/- Swap, Forge. -/
import Derived.Test.YtfnedohampmnoaaYu
namespace Go.Proofs.Ytfnedohampmnoaa
open Go.RowKit
set_option maxRecDepth 100000
attribute [local go_sem] not_any

def swpC (N : Nat → List ByteArray) (q i j : Int) : Int := if plc N q i = 0 then plc N q j else plc N q i
def swpN (N : Nat → List ByteArray) (q i j : Int) : Nat → List ByteArray := if swpC N q i j = 0 then upd N q.toNat (((N q.toNat).set i.toNat ((N q.toNat).getD j.toNat ByteArray.empty)).set j.toNat ((N q.toNat).getD i.toNat ByteArray.empty)) else N
def frgC (N : Nat → List ByteArray) (q i : Int) (s : ByteArray) : Int := if plc N q i = 0 then (if 131072 < s.size then 2 else 0) else plc N q i
def frgN (N : Nat → List ByteArray) (q i : Int) (s : ByteArray) : Nat → List ByteArray := if frgC N q i s = 0 then upd N q.toNat ((N q.toNat).set i.toNat s) else N

/- one byte string of a list is another now -/
theorem Lst.set {B : Nat} {w : World} {g n c : Nat} {A : List ByteArray} (h : Lst B w (.slice (some ⟨g, 0, none⟩) n c) A) (j : Nat) (s : ByteArray) :
    Lst B (w.setCell ⟨g, j, none⟩ (.string s)) (.slice (some ⟨g, 0, none⟩) n c) (A.set j s) ∧ w.grownBy (w.setCell ⟨g, j, none⟩ (.string s)) (some g) := by
  obtain ⟨a, c', e⟩ := h.form
  cases e
  unfold Lst at h
  have hs := h.stored j (.string s)
  refine ⟨?_, hs.2⟩
  unfold Lst
  rw [List.length_set]
  have e : strs (A.set j s) = (strs A).set j (.string s) := by simp [strs, List.map_set]
  rw [e]
  exact hs.1
theorem Lst.free {B : Nat} {w : World} {g n c : Nat} {A : List ByteArray} (h : Lst B w (.slice (some ⟨g, 0, none⟩) n c) A) (j : Nat) : w.frozen? ⟨g, j, none⟩ = false := by
  obtain ⟨a, c', e⟩ := h.form
  cases e
  exact World.ownsRow.frozenAt h j
theorem Lst.has {B : Nat} {w : World} {g n c : Nat} {A : List ByteArray} (h : Lst B w (.slice (some ⟨g, 0, none⟩) n c) A) {j : Nat} (hj : j < A.length) : ∃ y, w.cell? ⟨g, j, none⟩ = some y := by
  obtain ⟨a, c', e⟩ := h.form
  cases e
  obtain ⟨g2, c2, e, hcc, _⟩ := h.cell hj
  cases e
  exact ⟨_, hcc⟩
theorem grown_trans {a b c : World} {r : Option Nat} (h : a.grownBy b r) (k : b.grownBy c r) : a.grownBy c r :=
  ⟨k.os.trans h.os, k.tape.trans h.tape, k.output.trans h.output, Nat.le_trans h.size k.size, fun i hi hr => (k.block i (Nat.lt_of_lt_of_le hi h.size) hr).trans (h.block i hi hr)⟩
theorem Nw.changed {B t k : Nat} {x : Nat → Value} {N : Nat → List ByteArray} {w W2 W3 : World} {A : List ByteArray} (h : Nw B t x N w) (hk : k < 2) (hb : Below w.heap.size w W2) (hg : W2.grownBy W3 (x k).ownBlock)
    (ho : Lst B W3 (x k) A) : ∃ x', Nw B t x' (upd N k A) W3 ∧ Mv t x x' w W3 := by
  have hlt := lt_heap h.row
  have hs2 := hb.size
  have hr := (h.rowAt hk hb hg).1
  refine ⟨upd x k (x k), h.put hk ?_ ho (Nat.le_trans hs2 hg.size) (hg.os.trans hb.os) (hg.tape.trans hb.tape) (hg.output.trans hb.output) (fun g hgl hgt hgx => ?_) (fun g hgv => .inl hgv)⟩
  · rw [hr]
    rcases (show k = 0 ∨ k = 1 by omega) with rfl | rfl <;> rfl
  · rw [hg.block g (by omega) (fun e => hgx e.symm), hb.block g hgl]

theorem swap_fail {B t : Nat} {x : Nat → Value} {N : Nat → List ByteArray} {w : World} (h : Nw B t x N w) (q i j : Int) (hc : swpC N q i j ≠ 0) :
    Calls Try.prog 17 #[.pointer (some ⟨t, 0, none⟩), .int .i64 q, .int .i64 i, .int .i64 j] w fun e w' => e = .returned (.int .i64 (swpC N q i j)) ∧ w' = w := by
  have kP := hide1 (place_any h q i)
  have kQ := hide1 (place_any h q j)
  unfold swpC at *
  clear h
  by_cases h0 : plc N q i = 0
  · rw [if_pos h0] at *
    rw [h0] at kP
    have hb : (plc N q j != 0) = true := by simpa using hc
    generalize plc N q j = c at *
    clear h0
    go_enter Try.func17, Try.ntmps17
    go_wp2_with fail
    refine kP.out.mono ?_
    rintro e w1 ⟨rfl, hw1⟩
    obtain rfl := hw1.symm
    go_wp2_with fail
    refine kQ.out.mono ?_
    rintro e w1 ⟨rfl, hw1⟩
    obtain rfl := hw1.symm
    go_wp2
    go_ret
    exact ⟨rfl, rfl⟩
  · rw [if_neg h0]
    have hb : (plc N q i != 0) = true := by simpa using h0
    generalize plc N q i = c at *
    clear kQ hc
    go_enter Try.func17, Try.ntmps17
    go_wp2_with (go_at_call 31; refine kP.out.mono ?_; rintro e w1 ⟨rfl, rfl⟩)
    go_ret
    exact ⟨rfl, rfl⟩

theorem forge_fail {B t : Nat} {x : Nat → Value} {N : Nat → List ByteArray} {w : World} (h : Nw B t x N w) (q i : Int) (s : ByteArray) (hc : frgC N q i s ≠ 0) :
    Calls Try.prog 18 #[.pointer (some ⟨t, 0, none⟩), .int .i64 q, .int .i64 i, .string s] w fun e w' => e = .returned (.int .i64 (frgC N q i s)) ∧ w' = w := by
  have kP := hide1 (place_any h q i)
  unfold frgC at *
  clear h
  by_cases h0 : plc N q i = 0
  · rw [if_pos h0] at *
    rw [h0] at kP
    by_cases hs : 131072 < s.size
    · rw [if_pos hs]
      have h2' : (131072 : Int) < (s.size : Int) := by omega
      clear h0 hc
      go_enter Try.func18, Try.ntmps18
      go_wp2_with (go_at_call 31; refine kP.out.mono ?_; rintro e w1 ⟨rfl, rfl⟩)
      go_ret
      exact ⟨rfl, rfl⟩
    · rw [if_neg hs] at hc
      exact absurd rfl hc
  · rw [if_neg h0]
    have hb : (plc N q i != 0) = true := by simpa using h0
    generalize plc N q i = c at *
    clear hc
    go_enter Try.func18, Try.ntmps18
    go_wp2_with (go_at_call 31; refine kP.out.mono ?_; rintro e w1 ⟨rfl, rfl⟩)
    go_ret
    exact ⟨rfl, rfl⟩

theorem plc_zero {N : Nat → List ByteArray} {k j : Nat} (hk : k < 2) (hj : j < (N k).length) : plc N k j = 0 := by
  unfold plc
  rw [if_neg (by omega), if_neg (by simp; omega)]

set_option maxHeartbeats 1000000 in
theorem swap_ok0 {B t : Nat} {x : Nat → Value} {N : Nat → List ByteArray} {w : World} (h : Nw B t x N w) (i j : Nat) (hi : i < (N 0).length) (hj : j < (N 0).length) :
    Calls Try.prog 17 #[.pointer (some ⟨t, 0, none⟩), .int .i64 0, .int .i64 (i : Int), .int .i64 (j : Int)] w fun e w' => e = .returned (.int .i64 0) ∧ ∃ x', Nw B t x' (upd N 0 (((N 0).set i ((N 0).getD j ByteArray.empty)).set j ((N 0).getD i ByteArray.empty))) w' ∧ Mv t x x' w w' := by
  have kP := hide1 (place_any h 0 i)
  have kQ := hide1 (place_any h 0 j)
  have e0 : plc N 0 i = 0 := plc_zero (k := 0) (by omega) hi
  have e1 : plc N 0 j = 0 := plc_zero (k := 0) (by omega) hj
  rw [e0] at kP
  rw [e1] at kQ
  obtain ⟨c0, c1, c2, z1, z2⟩ := nw_cells h
  have H := hide1 h
  obtain ⟨g, c, hx, hcl, hfz, hgl, _, _⟩ := (h.own 0 (by omega)).cell hi
  obtain ⟨g', c', hx', hcl', hfz', _, _, _⟩ := (h.own 0 (by omega)).cell hj
  rw [hx] at hx'
  cases hx'
  have hL := h.own 0 (by omega)
  rw [hx] at hL
  have HX := hide1 hx
  generalize (N 0).getD i ByteArray.empty = s1 at *
  generalize (N 0).getD j ByteArray.empty = s2 at *
  have FIN : Hid (∃ x', Nw B t x' (upd N 0 (((N 0).set i s2).set j s1)) ((w.drew.setCell ⟨g, i, none⟩ (.string s2)).setCell ⟨g, j, none⟩ (.string s1)) ∧ Mv t x x' w ((w.drew.setCell ⟨g, i, none⟩ (.string s2)).setCell ⟨g, j, none⟩ (.string s1))) := by
    have hL' : Lst B w.drew (.slice (some ⟨g, 0, none⟩) (N 0).length c) (N 0) := hL
    have l1 := hL'.set i s2
    have l2 := l1.1.set j s1
    exact h.changed (k := 0) (W2 := w.drew) (by omega) (Below.refl _ _).drew (by rw [hx]; exact grown_trans l1.2 l2.2) (by rw [hx]; exact l2.1)
  have G1 : Hid ((w.drew.setCell ⟨g, i, none⟩ (.string s2)).frozen? ⟨g, j, none⟩ = false) := by
    have hL' : Lst B w.drew (.slice (some ⟨g, 0, none⟩) (N 0).length c) (N 0) := hL
    exact (hL'.set i s2).1.free j
  have G2 : Hid (∃ y, (w.drew.setCell ⟨g, i, none⟩ (.string s2)).cell? ⟨g, j, none⟩ = some y) := by
    have hL' : Lst B w.drew (.slice (some ⟨g, 0, none⟩) (N 0).length c) (N 0) := hL
    exact (hL'.set i s2).1.has (by rw [List.length_set]; exact hj)
  have C1 := hide1 c1
  rw [hx] at c1 C1
  obtain ⟨n, hn⟩ : ∃ n, (N 0).length = n := ⟨_, rfl⟩
  rw [hn] at c1 C1 HX hi hj
  have HC1 := hide1 hcl
  have HC2 := hide1 hcl'
  have HF1 := hide1 hfz
  clear h hx hn z1 z2 e0 e1 c2 hL hcl hcl' hfz hfz'
  go_enter Try.func17, Try.ntmps17
  go_wp2_with fail
  refine kP.out.mono ?_
  rintro e w1 ⟨rfl, hw1⟩
  obtain rfl := hw1.symm
  go_wp2_with fail
  refine kQ.out.mono ?_
  rintro e w1 ⟨rfl, hw1⟩
  obtain rfl := hw1.symm
  go_upto_region 8 with (fail)
  clear kP kQ c0 c1
  refine region_f (F := [13, 15]) (S := fun W => W.cell? ⟨g, i, none⟩ = some (.string s1) ∧ W.cell? ⟨g, j, none⟩ = some (.string s2)) (by kernel_rfl) ⟨HC1.out, HC2.out⟩ (fun hS => ?_)
  have g1 := G1.out
  obtain ⟨y, g2⟩ := G2.out
  have fi : (World.drew w).frozen? ⟨g, i, none⟩ = false := HF1.out
  obtain ⟨f1, f2⟩ := id hS
  generalize World.drew w = U at hS f1 f2 fi FIN g1 g2 ⊢
  clear G1 G2
  refine take_p 0 32 (.slice (some ⟨g, 0, none⟩) n c) rfl rfl (by kernel_rfl) (by kernel_rfl) (by kernel_rfl) (fun _ _ _ h => h) rfl (fun w => by go_simp) ?_
  try simp only [List.setIfInBounds_toArray, List.set_cons_zero, List.set_cons_succ]
  refine take_p 1 33 (.int .i64 (i : Int)) rfl rfl (by kernel_rfl) (by kernel_rfl) (by kernel_rfl) (fun _ _ _ h => h) rfl (fun w => by go_simp) ?_
  try simp only [List.setIfInBounds_toArray, List.set_cons_zero, List.set_cons_succ]
  refine take_p 2 34 (.slice (some ⟨g, 0, none⟩) n c) rfl rfl (by kernel_rfl) (by kernel_rfl) (by kernel_rfl) (fun _ _ _ h => h) rfl (fun w => by go_simp) ?_
  try simp only [List.setIfInBounds_toArray, List.set_cons_zero, List.set_cons_succ]
  refine take_p 3 35 (.int .i64 (j : Int)) rfl rfl (by kernel_rfl) (by kernel_rfl) (by kernel_rfl) (fun _ _ _ h => h) rfl (fun w => by go_simp) ?_
  try simp only [List.setIfInBounds_toArray, List.set_cons_zero, List.set_cons_succ]
  refine take_p 4 36 (.slice (some ⟨g, 0, none⟩) n c) rfl rfl (by kernel_rfl) (by kernel_rfl) (by kernel_rfl) (fun _ _ _ h => h) rfl (fun w => by go_simp) ?_
  try simp only [List.setIfInBounds_toArray, List.set_cons_zero, List.set_cons_succ]
  refine take_p 5 37 (.int .i64 (j : Int)) rfl rfl (by kernel_rfl) (by kernel_rfl) (by kernel_rfl) (fun _ _ _ h => h) rfl (fun w => by go_simp) ?_
  try simp only [List.setIfInBounds_toArray, List.set_cons_zero, List.set_cons_succ]
  refine take_p 6 38 (.pointer (some ⟨g, j, none⟩)) rfl rfl (by kernel_rfl) (by kernel_rfl) (by kernel_rfl) (fun _ _ _ h => h) rfl (fun w => by go_simp) ?_
  try simp only [List.setIfInBounds_toArray, List.set_cons_zero, List.set_cons_succ]
  refine take_f 7 39 (.string s2) [12, 13, 14, 15] rfl rfl (by kernel_rfl) (by kernel_rfl) (by kernel_rfl) (by kernel_rfl) (by kernel_rfl) (by kernel_rfl) (fun _ _ _ h => h) rfl (fun w hSw => by obtain ⟨g0, g1⟩ := hSw; go_simp) hS ?_
  try simp only [List.setIfInBounds_toArray, List.set_cons_zero, List.set_cons_succ]
  refine take_p 8 40 (.slice (some ⟨g, 0, none⟩) n c) rfl rfl (by kernel_rfl) (by kernel_rfl) (by kernel_rfl) (fun _ _ _ h => h) rfl (fun w => by go_simp) ?_
  try simp only [List.setIfInBounds_toArray, List.set_cons_zero, List.set_cons_succ]
  refine take_p 9 41 (.int .i64 (i : Int)) rfl rfl (by kernel_rfl) (by kernel_rfl) (by kernel_rfl) (fun _ _ _ h => h) rfl (fun w => by go_simp) ?_
  try simp only [List.setIfInBounds_toArray, List.set_cons_zero, List.set_cons_succ]
  refine take_p 10 42 (.pointer (some ⟨g, i, none⟩)) rfl rfl (by kernel_rfl) (by kernel_rfl) (by kernel_rfl) (fun _ _ _ h => h) rfl (fun w => by go_simp) ?_
  try simp only [List.setIfInBounds_toArray, List.set_cons_zero, List.set_cons_succ]
  refine take_f 11 43 (.string s1) [12, 13, 14, 15] rfl rfl (by kernel_rfl) (by kernel_rfl) (by kernel_rfl) (by kernel_rfl) (by kernel_rfl) (by kernel_rfl) (fun _ _ _ h => h) rfl (fun w hSw => by obtain ⟨g0, g1⟩ := hSw; go_simp) hS ?_
  try simp only [List.setIfInBounds_toArray, List.set_cons_zero, List.set_cons_succ]
  refine take_p 12 44 (.pointer (some ⟨g, i, none⟩)) rfl rfl (by kernel_rfl) (by kernel_rfl) (by kernel_rfl) (fun _ _ _ h => h) rfl (fun w => by go_simp) ?_
  try simp only [List.setIfInBounds_toArray, List.set_cons_zero, List.set_cons_succ]
  refine ready_f 13 (o := { dst := none, op := Op.store 9 (Operand.tmp 44) (Operand.tmp 39), type := 0, pos := "net.go:81", after := #[{ on := 12, ground := Ground.data }, { on := 7, ground := Ground.data }, { on := 0, ground := Ground.phase }, { on := 1, ground := Ground.phase }, { on := 2, ground := Ground.textOnly Departure.lateStores }, { on := 3, ground := Ground.textOnly Departure.lateStores }, { on := 4, ground := Ground.phase }, { on := 5, ground := Ground.phase }, { on := 6, ground := Ground.phase }, { on := 7, ground := Ground.phase }, { on := 8, ground := Ground.textOnly Departure.lateStores }, { on := 9, ground := Ground.textOnly Departure.lateStores }, { on := 10, ground := Ground.textOnly Departure.lateStoresUnsure }, { on := 11, ground := Ground.phase }], guard := none }) (by kernel_rfl) rfl (fun K hK => ?_)
  go_simp
  refine hK.out _ _ (fun h => absurd (by decide) h) ?_
  clear hK K
  generalize U.setCell ⟨g, i, none⟩ (.string s2) = U1 at FIN g1 g2 ⊢
  refine take_p 14 45 (.pointer (some ⟨g, j, none⟩)) rfl rfl (by kernel_rfl) (by kernel_rfl) (by kernel_rfl) (fun _ _ _ h => h) rfl (fun w => by go_simp) ?_
  try simp only [List.setIfInBounds_toArray, List.set_cons_zero, List.set_cons_succ]
  refine ready_f 15 (o := { dst := none, op := Op.store 9 (Operand.tmp 45) (Operand.tmp 43), type := 0, pos := "net.go:81", after := #[{ on := 14, ground := Ground.data }, { on := 11, ground := Ground.data }, { on := 13, ground := Ground.chain }, { on := 0, ground := Ground.phase }, { on := 1, ground := Ground.phase }, { on := 2, ground := Ground.phase }, { on := 3, ground := Ground.phase }, { on := 4, ground := Ground.phase }, { on := 5, ground := Ground.phase }, { on := 6, ground := Ground.phase }, { on := 7, ground := Ground.phase }, { on := 8, ground := Ground.phase }, { on := 9, ground := Ground.phase }, { on := 10, ground := Ground.phase }, { on := 11, ground := Ground.phase }, { on := 12, ground := Ground.phase }, { on := 13, ground := Ground.phase }], guard := none }) (by kernel_rfl) rfl (fun K hK => ?_)
  go_simp
  refine hK.out _ _ (fun h => absurd (by decide) h) ?_
  clear hK K
  refine done_f (by kernel_rfl) ?_ _
  go_wp2
  go_ret
  exact ⟨rfl, FIN.out⟩

set_option maxHeartbeats 1000000 in
theorem forge_ok0 {B t : Nat} {x : Nat → Value} {N : Nat → List ByteArray} {w : World} (h : Nw B t x N w) (i : Nat) (s : ByteArray) (hi : i < (N 0).length) (hs : s.size ≤ 131072) :
    Calls Try.prog 18 #[.pointer (some ⟨t, 0, none⟩), .int .i64 0, .int .i64 (i : Int), .string s] w fun e w' => e = .returned (.int .i64 0) ∧ ∃ x', Nw B t x' (upd N 0 ((N 0).set i s)) w' ∧ Mv t x x' w w' := by
  have kP := hide1 (place_any h 0 i)
  have e0 : plc N 0 i = 0 := plc_zero (k := 0) (by omega) hi
  rw [e0] at kP
  have kC := fun w => hide1 (clone_any s w (by omega))
  have h2' : ¬ (131072 : Int) < (s.size : Int) := by omega
  obtain ⟨c0, c1, c2, z1, z2⟩ := nw_cells h
  have H := hide1 h
  obtain ⟨g, c, hx, hcl, hfz, hgl, _, _⟩ := (h.own 0 (by omega)).cell hi
  have hlt : t < w.heap.size := lt_heap h.row
  have HLT := hide1 hlt
  have FIN : Hid (∀ U, Below w.heap.size w U → (U.frozen? ⟨g, i, none⟩ = false ∧ ∃ y, U.cell? ⟨g, i, none⟩ = some y) ∧ ∃ x', Nw B t x' (upd N 0 ((N 0).set i s)) (U.setCell ⟨g, i, none⟩ (.string s)) ∧ Mv t x x' w (U.setCell ⟨g, i, none⟩ (.string s))) := by
    intro U hU
    have hL := (h.below hU (Nat.le_refl _)).own 0 (by omega)
    obtain ⟨g2, c2', e2, hcc, hff, _⟩ := hL.cell hi
    rw [hx] at e2
    cases e2
    rw [hx] at hL
    have l1 := hL.set i s
    exact ⟨⟨hff, _, hcc⟩, h.changed (k := 0) (W2 := U) (by omega) hU (by rw [hx]; exact l1.2) (by rw [hx]; exact l1.1)⟩
  have C1 := hide1 c1
  rw [hx] at c1 C1
  obtain ⟨n, hn⟩ : ∃ n, (N 0).length = n := ⟨_, rfl⟩
  rw [hn] at c1 C1 hi
  clear h hx hn z1 z2 e0 c2 hcl hfz hs hlt
  go_enter Try.func18, Try.ntmps18
  go_upto_region 6 with (go_at_call 31; refine kP.out.mono ?_; rintro e w1 ⟨rfl, hw1⟩; obtain rfl := hw1.symm)
  clear kP c0 c1
  refine region_f (F := [10]) (S := fun W => W.cell? ⟨t, 1, none⟩ = some (.slice (some ⟨g, 0, none⟩) n c) ∧ t < W.heap.size) (by kernel_rfl) ⟨C1.out, HLT.out⟩ (fun hS => ?_)
  generalize hU : World.drew w = U at hS ⊢
  have bU : Hid (Below w.heap.size w U) := by rw [← hU]; exact (Below.refl _ _).drew
  clear hU
  refine take_p 0 20 (.pointer (some ⟨t, 0, none⟩)) rfl rfl (by kernel_rfl) (by kernel_rfl) (by kernel_rfl) (fun _ _ _ h => h) rfl (fun w => by go_simp) ?_
  try simp only [List.setIfInBounds_toArray, List.set_cons_zero, List.set_cons_succ]
  refine take_p 1 21 (.int .i64 0) rfl rfl (by kernel_rfl) (by kernel_rfl) (by kernel_rfl) (fun _ _ _ h => h) rfl (fun w => by go_simp) ?_
  try simp only [List.setIfInBounds_toArray, List.set_cons_zero, List.set_cons_succ]
  refine take_p 2 22 (.pointer (some ⟨t, 0, none⟩)) rfl rfl (by kernel_rfl) (by kernel_rfl) (by kernel_rfl) (fun _ _ _ h => h) rfl (fun w => by go_simp) ?_
  try simp only [List.setIfInBounds_toArray, List.set_cons_zero, List.set_cons_succ]
  refine take_p 3 23 (.pointer (some ⟨t, 1, none⟩)) rfl rfl (by kernel_rfl) (by kernel_rfl) (by kernel_rfl) (fun _ _ _ h => h) rfl (fun w => by go_simp) ?_
  try simp only [List.setIfInBounds_toArray, List.set_cons_zero, List.set_cons_succ]
  refine take_p 4 24 (.pointer (some ⟨t, 1, none⟩)) rfl rfl (by kernel_rfl) (by kernel_rfl) (by kernel_rfl) (fun _ _ _ h => h) rfl (fun w => by go_simp) ?_
  try simp only [List.setIfInBounds_toArray, List.set_cons_zero, List.set_cons_succ]
  refine take_f 5 25 (.slice (some ⟨g, 0, none⟩) n c) [9, 10] rfl rfl (by kernel_rfl) (by kernel_rfl) (by kernel_rfl) (by kernel_rfl) (by kernel_rfl) (by kernel_rfl) (fun _ _ _ h => h) rfl (fun w hSw => by obtain ⟨g0, g1⟩ := hSw; go_simp) hS ?_
  try simp only [List.setIfInBounds_toArray, List.set_cons_zero, List.set_cons_succ]
  refine take_p 6 26 (.int .i64 (i : Int)) rfl rfl (by kernel_rfl) (by kernel_rfl) (by kernel_rfl) (fun _ _ _ h => h) rfl (fun w => by go_simp) ?_
  try simp only [List.setIfInBounds_toArray, List.set_cons_zero, List.set_cons_succ]
  refine take_p 7 27 (.string s) rfl rfl (by kernel_rfl) (by kernel_rfl) (by kernel_rfl) (fun _ _ _ h => h) rfl (fun w => by go_simp) ?_
  try simp only [List.setIfInBounds_toArray, List.set_cons_zero, List.set_cons_succ]
  refine ready_f 8 (o := { dst := some 28, op := Op.call { callee := Callee.value (Operand.func 30), args := #[Operand.tmp 27], argTypes := #[9] }, type := 9, pos := "net.go:93", after := #[{ on := 7, ground := Ground.data }], guard := none }) (by kernel_rfl) rfl (fun K hK => ?_)
  go_simp
  refine (kC _).out.mono ?_
  rintro e W1 ⟨rfl, hb1⟩
  refine hK.out _ _ (fun _ h => ⟨(hb1.cell (p := ⟨t, _, none⟩) h.2).trans h.1, Nat.lt_of_lt_of_le h.2 hb1.size⟩) ?_
  clear hK K
  try simp only [Act.put, List.setIfInBounds_toArray, List.set_cons_zero, List.set_cons_succ]
  have FN := FIN.out W1 (bU.out.trans (hb1.mono bU.out.size))
  obtain ⟨⟨fz, y, fc⟩, fin⟩ := FN
  have FI := hide1 fin
  clear hb1 bU hS fin FIN
  refine take_p 9 29 (.pointer (some ⟨g, i, none⟩)) rfl rfl (by kernel_rfl) (by kernel_rfl) (by kernel_rfl) (fun _ _ _ h => h) rfl (fun w => by go_simp) ?_
  try simp only [List.setIfInBounds_toArray, List.set_cons_zero, List.set_cons_succ]
  refine ready_f 10 (o := { dst := none, op := Op.store 9 (Operand.tmp 29) (Operand.tmp 28), type := 0, pos := "net.go:93", after := #[{ on := 9, ground := Ground.data }, { on := 8, ground := Ground.data }, { on := 8, ground := Ground.chain }, { on := 0, ground := Ground.phase }, { on := 1, ground := Ground.phase }, { on := 2, ground := Ground.phase }, { on := 3, ground := Ground.phase }, { on := 4, ground := Ground.phase }, { on := 5, ground := Ground.phase }, { on := 6, ground := Ground.phase }, { on := 7, ground := Ground.phase }, { on := 8, ground := Ground.phase }], guard := none }) (by kernel_rfl) rfl (fun K hK => ?_)
  go_simp
  refine hK.out _ _ (fun h => absurd (by decide) h) ?_
  clear hK K
  refine done_f (by kernel_rfl) ?_ _
  go_wp2
  go_ret
  exact ⟨rfl, FI.out⟩

set_option maxHeartbeats 1000000 in
theorem swap_ok1 {B t : Nat} {x : Nat → Value} {N : Nat → List ByteArray} {w : World} (h : Nw B t x N w) (i j : Nat) (hi : i < (N 1).length) (hj : j < (N 1).length) :
    Calls Try.prog 17 #[.pointer (some ⟨t, 0, none⟩), .int .i64 1, .int .i64 (i : Int), .int .i64 (j : Int)] w fun e w' => e = .returned (.int .i64 0) ∧ ∃ x', Nw B t x' (upd N 1 (((N 1).set i ((N 1).getD j ByteArray.empty)).set j ((N 1).getD i ByteArray.empty))) w' ∧ Mv t x x' w w' := by
  have kP := hide1 (place_any h 1 i)
  have kQ := hide1 (place_any h 1 j)
  have e0 : plc N 1 i = 0 := plc_zero (k := 1) (by omega) hi
  have e1 : plc N 1 j = 0 := plc_zero (k := 1) (by omega) hj
  rw [e0] at kP
  rw [e1] at kQ
  obtain ⟨c0, c1, c2, z1, z2⟩ := nw_cells h
  have H := hide1 h
  obtain ⟨g, c, hx, hcl, hfz, hgl, _, _⟩ := (h.own 1 (by omega)).cell hi
  obtain ⟨g', c', hx', hcl', hfz', _, _, _⟩ := (h.own 1 (by omega)).cell hj
  rw [hx] at hx'
  cases hx'
  have hL := h.own 1 (by omega)
  rw [hx] at hL
  have HX := hide1 hx
  generalize (N 1).getD i ByteArray.empty = s1 at *
  generalize (N 1).getD j ByteArray.empty = s2 at *
  have FIN : Hid (∃ x', Nw B t x' (upd N 1 (((N 1).set i s2).set j s1)) ((w.drew.setCell ⟨g, i, none⟩ (.string s2)).setCell ⟨g, j, none⟩ (.string s1)) ∧ Mv t x x' w ((w.drew.setCell ⟨g, i, none⟩ (.string s2)).setCell ⟨g, j, none⟩ (.string s1))) := by
    have hL' : Lst B w.drew (.slice (some ⟨g, 0, none⟩) (N 1).length c) (N 1) := hL
    have l1 := hL'.set i s2
    have l2 := l1.1.set j s1
    exact h.changed (k := 1) (W2 := w.drew) (by omega) (Below.refl _ _).drew (by rw [hx]; exact grown_trans l1.2 l2.2) (by rw [hx]; exact l2.1)
  have G1 : Hid ((w.drew.setCell ⟨g, i, none⟩ (.string s2)).frozen? ⟨g, j, none⟩ = false) := by
    have hL' : Lst B w.drew (.slice (some ⟨g, 0, none⟩) (N 1).length c) (N 1) := hL
    exact (hL'.set i s2).1.free j
  have G2 : Hid (∃ y, (w.drew.setCell ⟨g, i, none⟩ (.string s2)).cell? ⟨g, j, none⟩ = some y) := by
    have hL' : Lst B w.drew (.slice (some ⟨g, 0, none⟩) (N 1).length c) (N 1) := hL
    exact (hL'.set i s2).1.has (by rw [List.length_set]; exact hj)
  have C2 := hide1 c2
  rw [hx] at c2 C2
  obtain ⟨n, hn⟩ : ∃ n, (N 1).length = n := ⟨_, rfl⟩
  rw [hn] at c2 C2 HX hi hj
  have HC1 := hide1 hcl
  have HC2 := hide1 hcl'
  have HF1 := hide1 hfz
  clear h hx hn z1 z2 e0 e1 c1 hL hcl hcl' hfz hfz'
  go_enter Try.func17, Try.ntmps17
  go_wp2_with fail
  refine kP.out.mono ?_
  rintro e w1 ⟨rfl, hw1⟩
  obtain rfl := hw1.symm
  go_wp2_with fail
  refine kQ.out.mono ?_
  rintro e w1 ⟨rfl, hw1⟩
  obtain rfl := hw1.symm
  go_upto_region 8 with (fail)
  clear kP kQ c0 c2
  refine region_f (F := [13, 15]) (S := fun W => W.cell? ⟨g, i, none⟩ = some (.string s1) ∧ W.cell? ⟨g, j, none⟩ = some (.string s2)) (by kernel_rfl) ⟨HC1.out, HC2.out⟩ (fun hS => ?_)
  have g1 := G1.out
  obtain ⟨y, g2⟩ := G2.out
  have fi : (World.drew w).frozen? ⟨g, i, none⟩ = false := HF1.out
  obtain ⟨f1, f2⟩ := id hS
  generalize World.drew w = U at hS f1 f2 fi FIN g1 g2 ⊢
  clear G1 G2
  refine take_p 0 32 (.slice (some ⟨g, 0, none⟩) n c) rfl rfl (by kernel_rfl) (by kernel_rfl) (by kernel_rfl) (fun _ _ _ h => h) rfl (fun w => by go_simp) ?_
  try simp only [List.setIfInBounds_toArray, List.set_cons_zero, List.set_cons_succ]
  refine take_p 1 33 (.int .i64 (i : Int)) rfl rfl (by kernel_rfl) (by kernel_rfl) (by kernel_rfl) (fun _ _ _ h => h) rfl (fun w => by go_simp) ?_
  try simp only [List.setIfInBounds_toArray, List.set_cons_zero, List.set_cons_succ]
  refine take_p 2 34 (.slice (some ⟨g, 0, none⟩) n c) rfl rfl (by kernel_rfl) (by kernel_rfl) (by kernel_rfl) (fun _ _ _ h => h) rfl (fun w => by go_simp) ?_
  try simp only [List.setIfInBounds_toArray, List.set_cons_zero, List.set_cons_succ]
  refine take_p 3 35 (.int .i64 (j : Int)) rfl rfl (by kernel_rfl) (by kernel_rfl) (by kernel_rfl) (fun _ _ _ h => h) rfl (fun w => by go_simp) ?_
  try simp only [List.setIfInBounds_toArray, List.set_cons_zero, List.set_cons_succ]
  refine take_p 4 36 (.slice (some ⟨g, 0, none⟩) n c) rfl rfl (by kernel_rfl) (by kernel_rfl) (by kernel_rfl) (fun _ _ _ h => h) rfl (fun w => by go_simp) ?_
  try simp only [List.setIfInBounds_toArray, List.set_cons_zero, List.set_cons_succ]
  refine take_p 5 37 (.int .i64 (j : Int)) rfl rfl (by kernel_rfl) (by kernel_rfl) (by kernel_rfl) (fun _ _ _ h => h) rfl (fun w => by go_simp) ?_
  try simp only [List.setIfInBounds_toArray, List.set_cons_zero, List.set_cons_succ]
  refine take_p 6 38 (.pointer (some ⟨g, j, none⟩)) rfl rfl (by kernel_rfl) (by kernel_rfl) (by kernel_rfl) (fun _ _ _ h => h) rfl (fun w => by go_simp) ?_
  try simp only [List.setIfInBounds_toArray, List.set_cons_zero, List.set_cons_succ]
  refine take_f 7 39 (.string s2) [12, 13, 14, 15] rfl rfl (by kernel_rfl) (by kernel_rfl) (by kernel_rfl) (by kernel_rfl) (by kernel_rfl) (by kernel_rfl) (fun _ _ _ h => h) rfl (fun w hSw => by obtain ⟨g0, g1⟩ := hSw; go_simp) hS ?_
  try simp only [List.setIfInBounds_toArray, List.set_cons_zero, List.set_cons_succ]
  refine take_p 8 40 (.slice (some ⟨g, 0, none⟩) n c) rfl rfl (by kernel_rfl) (by kernel_rfl) (by kernel_rfl) (fun _ _ _ h => h) rfl (fun w => by go_simp) ?_
  try simp only [List.setIfInBounds_toArray, List.set_cons_zero, List.set_cons_succ]
  refine take_p 9 41 (.int .i64 (i : Int)) rfl rfl (by kernel_rfl) (by kernel_rfl) (by kernel_rfl) (fun _ _ _ h => h) rfl (fun w => by go_simp) ?_
  try simp only [List.setIfInBounds_toArray, List.set_cons_zero, List.set_cons_succ]
  refine take_p 10 42 (.pointer (some ⟨g, i, none⟩)) rfl rfl (by kernel_rfl) (by kernel_rfl) (by kernel_rfl) (fun _ _ _ h => h) rfl (fun w => by go_simp) ?_
  try simp only [List.setIfInBounds_toArray, List.set_cons_zero, List.set_cons_succ]
  refine take_f 11 43 (.string s1) [12, 13, 14, 15] rfl rfl (by kernel_rfl) (by kernel_rfl) (by kernel_rfl) (by kernel_rfl) (by kernel_rfl) (by kernel_rfl) (fun _ _ _ h => h) rfl (fun w hSw => by obtain ⟨g0, g1⟩ := hSw; go_simp) hS ?_
  try simp only [List.setIfInBounds_toArray, List.set_cons_zero, List.set_cons_succ]
  refine take_p 12 44 (.pointer (some ⟨g, i, none⟩)) rfl rfl (by kernel_rfl) (by kernel_rfl) (by kernel_rfl) (fun _ _ _ h => h) rfl (fun w => by go_simp) ?_
  try simp only [List.setIfInBounds_toArray, List.set_cons_zero, List.set_cons_succ]
  refine ready_f 13 (o := { dst := none, op := Op.store 9 (Operand.tmp 44) (Operand.tmp 39), type := 0, pos := "net.go:81", after := #[{ on := 12, ground := Ground.data }, { on := 7, ground := Ground.data }, { on := 0, ground := Ground.phase }, { on := 1, ground := Ground.phase }, { on := 2, ground := Ground.textOnly Departure.lateStores }, { on := 3, ground := Ground.textOnly Departure.lateStores }, { on := 4, ground := Ground.phase }, { on := 5, ground := Ground.phase }, { on := 6, ground := Ground.phase }, { on := 7, ground := Ground.phase }, { on := 8, ground := Ground.textOnly Departure.lateStores }, { on := 9, ground := Ground.textOnly Departure.lateStores }, { on := 10, ground := Ground.textOnly Departure.lateStoresUnsure }, { on := 11, ground := Ground.phase }], guard := none }) (by kernel_rfl) rfl (fun K hK => ?_)
  go_simp
  refine hK.out _ _ (fun h => absurd (by decide) h) ?_
  clear hK K
  generalize U.setCell ⟨g, i, none⟩ (.string s2) = U1 at FIN g1 g2 ⊢
  refine take_p 14 45 (.pointer (some ⟨g, j, none⟩)) rfl rfl (by kernel_rfl) (by kernel_rfl) (by kernel_rfl) (fun _ _ _ h => h) rfl (fun w => by go_simp) ?_
  try simp only [List.setIfInBounds_toArray, List.set_cons_zero, List.set_cons_succ]
  refine ready_f 15 (o := { dst := none, op := Op.store 9 (Operand.tmp 45) (Operand.tmp 43), type := 0, pos := "net.go:81", after := #[{ on := 14, ground := Ground.data }, { on := 11, ground := Ground.data }, { on := 13, ground := Ground.chain }, { on := 0, ground := Ground.phase }, { on := 1, ground := Ground.phase }, { on := 2, ground := Ground.phase }, { on := 3, ground := Ground.phase }, { on := 4, ground := Ground.phase }, { on := 5, ground := Ground.phase }, { on := 6, ground := Ground.phase }, { on := 7, ground := Ground.phase }, { on := 8, ground := Ground.phase }, { on := 9, ground := Ground.phase }, { on := 10, ground := Ground.phase }, { on := 11, ground := Ground.phase }, { on := 12, ground := Ground.phase }, { on := 13, ground := Ground.phase }], guard := none }) (by kernel_rfl) rfl (fun K hK => ?_)
  go_simp
  refine hK.out _ _ (fun h => absurd (by decide) h) ?_
  clear hK K
  refine done_f (by kernel_rfl) ?_ _
  go_wp2
  go_ret
  exact ⟨rfl, FIN.out⟩

set_option maxHeartbeats 1000000 in
theorem forge_ok1 {B t : Nat} {x : Nat → Value} {N : Nat → List ByteArray} {w : World} (h : Nw B t x N w) (i : Nat) (s : ByteArray) (hi : i < (N 1).length) (hs : s.size ≤ 131072) :
    Calls Try.prog 18 #[.pointer (some ⟨t, 0, none⟩), .int .i64 1, .int .i64 (i : Int), .string s] w fun e w' => e = .returned (.int .i64 0) ∧ ∃ x', Nw B t x' (upd N 1 ((N 1).set i s)) w' ∧ Mv t x x' w w' := by
  have kP := hide1 (place_any h 1 i)
  have e0 : plc N 1 i = 0 := plc_zero (k := 1) (by omega) hi
  rw [e0] at kP
  have kC := fun w => hide1 (clone_any s w (by omega))
  have h2' : ¬ (131072 : Int) < (s.size : Int) := by omega
  obtain ⟨c0, c1, c2, z1, z2⟩ := nw_cells h
  have H := hide1 h
  obtain ⟨g, c, hx, hcl, hfz, hgl, _, _⟩ := (h.own 1 (by omega)).cell hi
  have hlt : t < w.heap.size := lt_heap h.row
  have HLT := hide1 hlt
  have FIN : Hid (∀ U, Below w.heap.size w U → (U.frozen? ⟨g, i, none⟩ = false ∧ ∃ y, U.cell? ⟨g, i, none⟩ = some y) ∧ ∃ x', Nw B t x' (upd N 1 ((N 1).set i s)) (U.setCell ⟨g, i, none⟩ (.string s)) ∧ Mv t x x' w (U.setCell ⟨g, i, none⟩ (.string s))) := by
    intro U hU
    have hL := (h.below hU (Nat.le_refl _)).own 1 (by omega)
    obtain ⟨g2, c2', e2, hcc, hff, _⟩ := hL.cell hi
    rw [hx] at e2
    cases e2
    rw [hx] at hL
    have l1 := hL.set i s
    exact ⟨⟨hff, _, hcc⟩, h.changed (k := 1) (W2 := U) (by omega) hU (by rw [hx]; exact l1.2) (by rw [hx]; exact l1.1)⟩
  have C2 := hide1 c2
  rw [hx] at c2 C2
  obtain ⟨n, hn⟩ : ∃ n, (N 1).length = n := ⟨_, rfl⟩
  rw [hn] at c2 C2 hi
  clear h hx hn z1 z2 e0 c1 hcl hfz hs hlt
  go_enter Try.func18, Try.ntmps18
  go_upto_region 6 with (go_at_call 31; refine kP.out.mono ?_; rintro e w1 ⟨rfl, hw1⟩; obtain rfl := hw1.symm)
  clear kP c0 c2
  refine region_f (F := [10]) (S := fun W => W.cell? ⟨t, 2, none⟩ = some (.slice (some ⟨g, 0, none⟩) n c) ∧ t < W.heap.size) (by kernel_rfl) ⟨C2.out, HLT.out⟩ (fun hS => ?_)
  generalize hU : World.drew w = U at hS ⊢
  have bU : Hid (Below w.heap.size w U) := by rw [← hU]; exact (Below.refl _ _).drew
  clear hU
  refine take_p 0 20 (.pointer (some ⟨t, 0, none⟩)) rfl rfl (by kernel_rfl) (by kernel_rfl) (by kernel_rfl) (fun _ _ _ h => h) rfl (fun w => by go_simp) ?_
  try simp only [List.setIfInBounds_toArray, List.set_cons_zero, List.set_cons_succ]
  refine take_p 1 21 (.int .i64 1) rfl rfl (by kernel_rfl) (by kernel_rfl) (by kernel_rfl) (fun _ _ _ h => h) rfl (fun w => by go_simp) ?_
  try simp only [List.setIfInBounds_toArray, List.set_cons_zero, List.set_cons_succ]
  refine take_p 2 22 (.pointer (some ⟨t, 0, none⟩)) rfl rfl (by kernel_rfl) (by kernel_rfl) (by kernel_rfl) (fun _ _ _ h => h) rfl (fun w => by go_simp) ?_
  try simp only [List.setIfInBounds_toArray, List.set_cons_zero, List.set_cons_succ]
  refine take_p 3 23 (.pointer (some ⟨t, 1, none⟩)) rfl rfl (by kernel_rfl) (by kernel_rfl) (by kernel_rfl) (fun _ _ _ h => h) rfl (fun w => by go_simp) ?_
  try simp only [List.setIfInBounds_toArray, List.set_cons_zero, List.set_cons_succ]
  refine take_p 4 24 (.pointer (some ⟨t, 2, none⟩)) rfl rfl (by kernel_rfl) (by kernel_rfl) (by kernel_rfl) (fun _ _ _ h => h) rfl (fun w => by go_simp) ?_
  try simp only [List.setIfInBounds_toArray, List.set_cons_zero, List.set_cons_succ]
  refine take_f 5 25 (.slice (some ⟨g, 0, none⟩) n c) [9, 10] rfl rfl (by kernel_rfl) (by kernel_rfl) (by kernel_rfl) (by kernel_rfl) (by kernel_rfl) (by kernel_rfl) (fun _ _ _ h => h) rfl (fun w hSw => by obtain ⟨g0, g1⟩ := hSw; go_simp) hS ?_
  try simp only [List.setIfInBounds_toArray, List.set_cons_zero, List.set_cons_succ]
  refine take_p 6 26 (.int .i64 (i : Int)) rfl rfl (by kernel_rfl) (by kernel_rfl) (by kernel_rfl) (fun _ _ _ h => h) rfl (fun w => by go_simp) ?_
  try simp only [List.setIfInBounds_toArray, List.set_cons_zero, List.set_cons_succ]
  refine take_p 7 27 (.string s) rfl rfl (by kernel_rfl) (by kernel_rfl) (by kernel_rfl) (fun _ _ _ h => h) rfl (fun w => by go_simp) ?_
  try simp only [List.setIfInBounds_toArray, List.set_cons_zero, List.set_cons_succ]
  refine ready_f 8 (o := { dst := some 28, op := Op.call { callee := Callee.value (Operand.func 30), args := #[Operand.tmp 27], argTypes := #[9] }, type := 9, pos := "net.go:93", after := #[{ on := 7, ground := Ground.data }], guard := none }) (by kernel_rfl) rfl (fun K hK => ?_)
  go_simp
  refine (kC _).out.mono ?_
  rintro e W1 ⟨rfl, hb1⟩
  refine hK.out _ _ (fun _ h => ⟨(hb1.cell (p := ⟨t, _, none⟩) h.2).trans h.1, Nat.lt_of_lt_of_le h.2 hb1.size⟩) ?_
  clear hK K
  try simp only [Act.put, List.setIfInBounds_toArray, List.set_cons_zero, List.set_cons_succ]
  have FN := FIN.out W1 (bU.out.trans (hb1.mono bU.out.size))
  obtain ⟨⟨fz, y, fc⟩, fin⟩ := FN
  have FI := hide1 fin
  clear hb1 bU hS fin FIN
  refine take_p 9 29 (.pointer (some ⟨g, i, none⟩)) rfl rfl (by kernel_rfl) (by kernel_rfl) (by kernel_rfl) (fun _ _ _ h => h) rfl (fun w => by go_simp) ?_
  try simp only [List.setIfInBounds_toArray, List.set_cons_zero, List.set_cons_succ]
  refine ready_f 10 (o := { dst := none, op := Op.store 9 (Operand.tmp 29) (Operand.tmp 28), type := 0, pos := "net.go:93", after := #[{ on := 9, ground := Ground.data }, { on := 8, ground := Ground.data }, { on := 8, ground := Ground.chain }, { on := 0, ground := Ground.phase }, { on := 1, ground := Ground.phase }, { on := 2, ground := Ground.phase }, { on := 3, ground := Ground.phase }, { on := 4, ground := Ground.phase }, { on := 5, ground := Ground.phase }, { on := 6, ground := Ground.phase }, { on := 7, ground := Ground.phase }, { on := 8, ground := Ground.phase }], guard := none }) (by kernel_rfl) rfl (fun K hK => ?_)
  go_simp
  refine hK.out _ _ (fun h => absurd (by decide) h) ?_
  clear hK K
  refine done_f (by kernel_rfl) ?_ _
  go_wp2
  go_ret
  exact ⟨rfl, FI.out⟩

theorem swap_any {B t : Nat} {x : Nat → Value} {N : Nat → List ByteArray} {w : World} (h : Nw B t x N w) (q i j : Int) :
    Calls Try.prog 17 #[.pointer (some ⟨t, 0, none⟩), .int .i64 q, .int .i64 i, .int .i64 j] w fun e w' => e = .returned (.int .i64 (swpC N q i j)) ∧ ∃ x', Nw B t x' (swpN N q i j) w' ∧ Mv t x x' w w' := by
  unfold swpN
  by_cases hc : swpC N q i j = 0
  · rw [if_pos hc, hc]
    have h0 : plc N q i = 0 := by
      by_cases h0 : plc N q i = 0
      · exact h0
      · rw [swpC, if_neg h0] at hc
        exact absurd hc h0
    have h1 : plc N q j = 0 := by
      rw [swpC, if_pos h0] at hc
      exact hc
    obtain ⟨k, i, rfl, rfl, hk, hi⟩ := plc_ok h0
    obtain ⟨k', j, e, rfl, _, hj⟩ := plc_ok h1
    obtain rfl : k' = k := by omega
    rcases (show k' = 0 ∨ k' = 1 by omega) with rfl | rfl
    · exact swap_ok0 h i j hi hj
    · exact swap_ok1 h i j hi hj
  · rw [if_neg hc]
    refine (swap_fail h q i j hc).mono ?_
    rintro e w' ⟨rfl, rfl⟩
    exact ⟨rfl, x, h, Mv.refl _ _ _⟩
theorem forge_any {B t : Nat} {x : Nat → Value} {N : Nat → List ByteArray} {w : World} (h : Nw B t x N w) (q i : Int) (s : ByteArray) :
    Calls Try.prog 18 #[.pointer (some ⟨t, 0, none⟩), .int .i64 q, .int .i64 i, .string s] w fun e w' => e = .returned (.int .i64 (frgC N q i s)) ∧ ∃ x', Nw B t x' (frgN N q i s) w' ∧ Mv t x x' w w' := by
  unfold frgN
  by_cases hc : frgC N q i s = 0
  · rw [if_pos hc, hc]
    have h0 : plc N q i = 0 := by
      by_cases h0 : plc N q i = 0
      · exact h0
      · rw [frgC, if_neg h0] at hc
        exact absurd hc h0
    have hs : s.size ≤ 131072 := by
      rw [frgC, if_pos h0] at hc
      split at hc
      · cases hc
      · omega
    obtain ⟨k, i, rfl, rfl, hk, hi⟩ := plc_ok h0
    rcases (show k = 0 ∨ k = 1 by omega) with rfl | rfl
    · exact forge_ok0 h i s hi hs
    · exact forge_ok1 h i s hi hs
  · rw [if_neg hc]
    refine (forge_fail h q i s hc).mono ?_
    rintro e w' ⟨rfl, rfl⟩
    exact ⟨rfl, x, h, Mv.refl _ _ _⟩

end Go.Proofs.Ytfnedohampmnoaa
