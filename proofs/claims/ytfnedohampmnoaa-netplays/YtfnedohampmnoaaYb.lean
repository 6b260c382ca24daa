/- Turn. -/
import Derived.Test.YtfnedohampmnoaaYx
import Derived.Lib.ConvBytes
import Derived.Laws.BitsAllLaws
import Derived.Laws.IdiomStrings
namespace Go.Proofs.Ytfnedohampmnoaa
open Go.RowKit
set_option maxRecDepth 100000
attribute [local go_sem] not_any

/- these bits of a byte turned -/
def trnL (l : List UInt8) (j b : Nat) : List UInt8 := l.set j (UInt8.ofNat ((l.getD j 0).toNat ^^^ b))
def trn (s : ByteArray) (j b : Nat) : ByteArray := ⟨(trnL s.data.toList j b).toArray⟩
def trnC (N : Nat → List ByteArray) (q i j : Int) : Int := if plc N q i = 0 then (if j < 0 ∨ (((N q.toNat).getD i.toNat ByteArray.empty).size : Int) ≤ j then 6 else 0) else plc N q i
def trnN (N : Nat → List ByteArray) (q i j : Int) (b : Nat) : Nat → List ByteArray := if trnC N q i j = 0 then upd N q.toNat ((N q.toNat).set i.toNat (trn ((N q.toNat).getD i.toNat ByteArray.empty) j.toNat b)) else N

theorem xor8_lt {a b : Nat} (ha : a < 256) (hb : b < 256) : a ^^^ b < 256 := Nat.xor_lt_two_pow (n := 8) ha hb
theorem trnL_length (l : List UInt8) (j b : Nat) : (trnL l j b).length = l.length := by simp [trnL]
theorem trn_size (s : ByteArray) (j b : Nat) : (trn s j b).size = s.size := by
  show (trnL s.data.toList j b).toArray.size = s.data.size
  simp [trnL]

/- a text's bytes in memory of the call's own -/
structure Bt (w W : World) (g : Nat) (s : ByteArray) : Prop where
  cell : ∀ j, j < s.size → W.cell? ⟨g, j, none⟩ = some (.int .u8 ((s.data.toList.getD j 0).toNat : Int)) ∧ W.frozen? ⟨g, j, none⟩ = false
  bl : Below w.heap.size w W
  at' : g = w.heap.size
theorem bytes_of (w : World) (s : ByteArray) : ∃ W cap, (convert 9 64 (.string s)).run Try.prog w = .ok (.slice (some ⟨w.heap.size, 0, none⟩) s.size cap) W ∧ Bt w W w.heap.size s := by
  refine ⟨_, _, Lib.run_convert_string_bytes w 9 64 5 s Try.underlying9 Try.underlying64 Try.underlying5, fun j hj => ⟨Lib.bytesWorld_cell w 5 s j hj, ?_⟩, ⟨rfl, rfl, rfl, by rw [Lib.bytesWorld_size]; omega, fun k hk => Lib.bytesWorld_at_old w 5 s k hk⟩, rfl⟩
  have hz : j < (Lib.bytesCells w 5 s).size := by
    simp only [Lib.bytesCells, Array.size_append, Array.size_map]
    have : s.data.size = s.size := rfl
    omega
  simp [World.frozen?, Lib.bytesWorld_at_new]
  omega
theorem bytes_turned {w W : World} {g : Nat} {s : ByteArray} (h : Bt w W g s) {j b : Nat} (hj : j < s.size) (hb : b < 256) (cap : Nat) :
    (convert 64 9 (.slice (some ⟨g, 0, none⟩) s.size cap)).run Try.prog (W.setCell ⟨g, j, none⟩ (.int .u8 (((s.data.toList.getD j 0).toNat ^^^ b : Nat) : Int))) = .ok (.string (trn s j b)) (W.setCell ⟨g, j, none⟩ (.int .u8 (((s.data.toList.getD j 0).toNat ^^^ b : Nat) : Int))) := by
  have hl : (trnL s.data.toList j b).length = s.size := by rw [trnL_length]; exact Array.length_toList
  have hsz : s.data.toList.length = s.size := Array.length_toList
  have k := run_convert_bytes_back (P := Try.prog) (W.setCell ⟨g, j, none⟩ (.int .u8 (((s.data.toList.getD j 0).toNat ^^^ b : Nat) : Int))) 64 9 5 ⟨g, 0, none⟩ cap (trnL s.data.toList j b) Try.underlying64 Try.underlying5 Try.underlying9 (fun m hm => by
    rw [Addr.add_lit, Nat.zero_add]
    have hm' : m < s.size := by rw [← hl]; exact hm
    by_cases hmj : m = j
    · subst hmj
      have hlt : ((s.data.toList.getD m 0).toNat ^^^ b) < 256 := xor8_lt (UInt8.toNat_lt _) hb
      have e1 : (W.setCell ⟨g, m, none⟩ (.int .u8 (((s.data.toList.getD m 0).toNat ^^^ b : Nat) : Int))).cell? ⟨g, m, none⟩ = some (.int .u8 (((s.data.toList.getD m 0).toNat ^^^ b : Nat) : Int)) := World.cell?_setCell_same (h := (h.cell m hm').1) ..
      rw [e1]
      simp only [trnL, List.getElem_set_self]
      rw [UInt8.toNat_ofNat_of_lt' hlt]
    · have e1 : (W.setCell ⟨g, j, none⟩ (.int .u8 (((s.data.toList.getD j 0).toNat ^^^ b : Nat) : Int))).cell? ⟨g, m, none⟩ = W.cell? ⟨g, m, none⟩ := World.cell?_setCell_other (h := fun e => hmj (by cases e; rfl)) ..
      rw [e1, (h.cell m hm').1]
      simp only [trnL]
      rw [List.getElem_set_ne (fun e => hmj e.symm)]
      rw [List.getD_eq_getElem?_getD, List.getElem?_eq_getElem (by omega)]
      rfl)
  rw [hl] at k
  exact k

theorem turn_fail {B t : Nat} {x : Nat → Value} {N : Nat → List ByteArray} {w : World} (h : Nw B t x N w) (q i j b : Int) (hc : plc N q i ≠ 0) :
    Calls Try.prog 19 #[.pointer (some ⟨t, 0, none⟩), .int .i64 q, .int .i64 i, .int .i64 j, .int .u8 b] w fun e w' => e = .returned (.int .i64 (plc N q i)) ∧ w' = w := by
  have kP := hide1 (place_any h q i)
  have hb : (plc N q i != 0) = true := by simpa using hc
  generalize plc N q i = c at *
  clear h hc
  go_enter Try.func19, Try.ntmps19
  go_wp2_with (go_at_call 31; refine kP.out.mono ?_; rintro e w1 ⟨rfl, rfl⟩)
  go_ret
  exact ⟨rfl, rfl⟩

set_option maxHeartbeats 1000000 in
theorem turn_none0 {B t : Nat} {x : Nat → Value} {N : Nat → List ByteArray} {w : World} (h : Nw B t x N w) (i : Nat) (j b : Int) (hi : i < (N 0).length) (hj : j < 0 ∨ (((N 0).getD i ByteArray.empty).size : Int) ≤ j) :
    Calls Try.prog 19 #[.pointer (some ⟨t, 0, none⟩), .int .i64 0, .int .i64 (i : Int), .int .i64 j, .int .u8 b] w fun e w' => e = .returned (.int .i64 6) ∧ w' = w := by
  have kP := hide1 (place_any h 0 i)
  have e0 : plc N 0 i = 0 := plc_zero (k := 0) (by omega) hi
  rw [e0] at kP
  obtain ⟨c0, c1, c2, z1, z2⟩ := nw_cells h
  obtain ⟨g, c, hx, hcl, hfz, hgl, _, _⟩ := (h.own 0 (by omega)).cell hi
  rw [hx] at c1
  generalize (N 0).getD i ByteArray.empty = s at *
  generalize (N 0).length = n at *
  have hin : (i : Int) < (n : Int) := by omega
  clear h hx z1 z2 e0 c2
  by_cases h0 : j < 0
  · go_enter Try.func19, Try.ntmps19
    go_wp2_with (go_at_call 31; refine kP.out.mono ?_; rintro e w1 ⟨rfl, hw1⟩; obtain rfl := hw1.symm)
    go_ret
    exact ⟨rfl, rfl⟩
  · have h1 : (s.size : Int) ≤ j := by omega
    go_enter Try.func19, Try.ntmps19
    go_wp2_with (go_at_call 31; refine kP.out.mono ?_; rintro e w1 ⟨rfl, hw1⟩; obtain rfl := hw1.symm)
    go_ret
    exact ⟨rfl, rfl⟩

set_option maxHeartbeats 2000000 in
theorem turn_ok0 {B t : Nat} {x : Nat → Value} {N : Nat → List ByteArray} {w : World} (h : Nw B t x N w) (i j b : Nat) (hi : i < (N 0).length) (hj : j < ((N 0).getD i ByteArray.empty).size) (hb : b < 256) :
    Calls Try.prog 19 #[.pointer (some ⟨t, 0, none⟩), .int .i64 0, .int .i64 (i : Int), .int .i64 (j : Int), .int .u8 (b : Int)] w fun e w' => e = .returned (.int .i64 0) ∧ ∃ x', Nw B t x' (upd N 0 ((N 0).set i (trn ((N 0).getD i ByteArray.empty) j b))) w' ∧ Mv t x x' w w' := by
  have kP := hide1 (place_any h 0 i)
  have e0 : plc N 0 i = 0 := plc_zero (k := 0) (by omega) hi
  rw [e0] at kP
  obtain ⟨c0, c1, c2, z1, z2⟩ := nw_cells h
  obtain ⟨g, c, hx, hcl, hfz, hgl, _, _⟩ := (h.own 0 (by omega)).cell hi
  have hL := h.own 0 (by omega)
  rw [hx] at c1
  obtain ⟨W, cap, hcv, hB⟩ := bytes_of w ((N 0).getD i ByteArray.empty)
  generalize (N 0).getD i ByteArray.empty = s at *
  have hcb := bytes_turned hB hj hb cap
  have hbW : Below w.heap.size w (W.setCell ⟨w.heap.size, j, none⟩ (.int .u8 (((s.data.toList.getD j 0).toNat ^^^ b : Nat) : Int))) := hB.bl.setCell (p := ⟨w.heap.size, j, none⟩) (Nat.le_refl _) _
  have FIN : Hid (∃ x', Nw B t x' (upd N 0 ((N 0).set i (trn s j b))) ((W.setCell ⟨w.heap.size, j, none⟩ (.int .u8 (((s.data.toList.getD j 0).toNat ^^^ b : Nat) : Int))).setCell ⟨g, i, none⟩ (.string (trn s j b))) ∧ Mv t x x' w ((W.setCell ⟨w.heap.size, j, none⟩ (.int .u8 (((s.data.toList.getD j 0).toNat ^^^ b : Nat) : Int))).setCell ⟨g, i, none⟩ (.string (trn s j b)))) := by
    have hL2 := hL.below hbW (Nat.le_refl _)
    rw [hx] at hL2
    have l1 := hL2.set i (trn s j b)
    exact h.changed (k := 0) (by omega) hbW (by rw [hx]; exact l1.2) (by rw [hx]; exact l1.1)
  have G1 : Hid ((W.setCell ⟨w.heap.size, j, none⟩ (.int .u8 (((s.data.toList.getD j 0).toNat ^^^ b : Nat) : Int))).frozen? ⟨g, i, none⟩ = false ∧ ∃ y, (W.setCell ⟨w.heap.size, j, none⟩ (.int .u8 (((s.data.toList.getD j 0).toNat ^^^ b : Nat) : Int))).cell? ⟨g, i, none⟩ = some y) := by
    have hL2 := hL.below hbW (Nat.le_refl _)
    rw [hx] at hL2
    exact ⟨hL2.free i, hL2.has hi⟩
  obtain ⟨bc, bz⟩ := hB.cell j hj
  obtain ⟨b8, hb8⟩ : ∃ b8, w.heap.size = b8 := ⟨_, rfl⟩
  obtain ⟨u, hu⟩ : ∃ u, (s.data.toList.getD j 0).toNat = u := ⟨_, rfl⟩
  have lu : u < 256 := by rw [← hu]; exact UInt8.toNat_lt _
  rw [hu, hb8] at hcb FIN G1 bc
  rw [hb8] at hcv bz
  obtain ⟨v, hv⟩ : ∃ v, v = u ^^^ b := ⟨_, rfl⟩
  have ex : bits .xor .u8 (u : Int) (b : Int) = (v : Int) := by rw [hv]; exact u8_xor_nat _ _ lu hb
  rw [← hv] at hcb FIN G1
  generalize trn s j b = s' at *
  obtain ⟨n, hn⟩ : ∃ n, (N 0).length = n := ⟨_, rfl⟩
  rw [hn] at c1 hi
  have hin : (i : Int) < (n : Int) := by omega
  have hj0 : ¬ (j : Int) < 0 := by omega
  have hj1 : ¬ (s.size : Int) ≤ (j : Int) := by omega
  have hj2 : (j : Int) < (s.size : Int) := by omega
  have g1 := G1.out.1
  obtain ⟨y, g2⟩ := G1.out.2
  clear h hx hL z1 z2 e0 c2 hbW hb8 hu hv hn hB G1
  go_enter Try.func19, Try.ntmps19
  go_wp2_with (go_at_call 31; refine kP.out.mono ?_; rintro e w1 ⟨rfl, hw1⟩; obtain rfl := hw1.symm)
  go_ret
  exact ⟨rfl, FIN.out⟩

set_option maxHeartbeats 1000000 in
theorem turn_none1 {B t : Nat} {x : Nat → Value} {N : Nat → List ByteArray} {w : World} (h : Nw B t x N w) (i : Nat) (j b : Int) (hi : i < (N 1).length) (hj : j < 0 ∨ (((N 1).getD i ByteArray.empty).size : Int) ≤ j) :
    Calls Try.prog 19 #[.pointer (some ⟨t, 0, none⟩), .int .i64 1, .int .i64 (i : Int), .int .i64 j, .int .u8 b] w fun e w' => e = .returned (.int .i64 6) ∧ w' = w := by
  have kP := hide1 (place_any h 1 i)
  have e0 : plc N 1 i = 0 := plc_zero (k := 1) (by omega) hi
  rw [e0] at kP
  obtain ⟨c0, c1, c2, z1, z2⟩ := nw_cells h
  obtain ⟨g, c, hx, hcl, hfz, hgl, _, _⟩ := (h.own 1 (by omega)).cell hi
  rw [hx] at c2
  generalize (N 1).getD i ByteArray.empty = s at *
  generalize (N 1).length = n at *
  have hin : (i : Int) < (n : Int) := by omega
  clear h hx z1 z2 e0 c1
  by_cases h0 : j < 0
  · go_enter Try.func19, Try.ntmps19
    go_wp2_with (go_at_call 31; refine kP.out.mono ?_; rintro e w1 ⟨rfl, hw1⟩; obtain rfl := hw1.symm)
    go_ret
    exact ⟨rfl, rfl⟩
  · have h1 : (s.size : Int) ≤ j := by omega
    go_enter Try.func19, Try.ntmps19
    go_wp2_with (go_at_call 31; refine kP.out.mono ?_; rintro e w1 ⟨rfl, hw1⟩; obtain rfl := hw1.symm)
    go_ret
    exact ⟨rfl, rfl⟩

set_option maxHeartbeats 2000000 in
theorem turn_ok1 {B t : Nat} {x : Nat → Value} {N : Nat → List ByteArray} {w : World} (h : Nw B t x N w) (i j b : Nat) (hi : i < (N 1).length) (hj : j < ((N 1).getD i ByteArray.empty).size) (hb : b < 256) :
    Calls Try.prog 19 #[.pointer (some ⟨t, 0, none⟩), .int .i64 1, .int .i64 (i : Int), .int .i64 (j : Int), .int .u8 (b : Int)] w fun e w' => e = .returned (.int .i64 0) ∧ ∃ x', Nw B t x' (upd N 1 ((N 1).set i (trn ((N 1).getD i ByteArray.empty) j b))) w' ∧ Mv t x x' w w' := by
  have kP := hide1 (place_any h 1 i)
  have e0 : plc N 1 i = 0 := plc_zero (k := 1) (by omega) hi
  rw [e0] at kP
  obtain ⟨c0, c1, c2, z1, z2⟩ := nw_cells h
  obtain ⟨g, c, hx, hcl, hfz, hgl, _, _⟩ := (h.own 1 (by omega)).cell hi
  have hL := h.own 1 (by omega)
  rw [hx] at c2
  obtain ⟨W, cap, hcv, hB⟩ := bytes_of w ((N 1).getD i ByteArray.empty)
  generalize (N 1).getD i ByteArray.empty = s at *
  have hcb := bytes_turned hB hj hb cap
  have hbW : Below w.heap.size w (W.setCell ⟨w.heap.size, j, none⟩ (.int .u8 (((s.data.toList.getD j 0).toNat ^^^ b : Nat) : Int))) := hB.bl.setCell (p := ⟨w.heap.size, j, none⟩) (Nat.le_refl _) _
  have FIN : Hid (∃ x', Nw B t x' (upd N 1 ((N 1).set i (trn s j b))) ((W.setCell ⟨w.heap.size, j, none⟩ (.int .u8 (((s.data.toList.getD j 0).toNat ^^^ b : Nat) : Int))).setCell ⟨g, i, none⟩ (.string (trn s j b))) ∧ Mv t x x' w ((W.setCell ⟨w.heap.size, j, none⟩ (.int .u8 (((s.data.toList.getD j 0).toNat ^^^ b : Nat) : Int))).setCell ⟨g, i, none⟩ (.string (trn s j b)))) := by
    have hL2 := hL.below hbW (Nat.le_refl _)
    rw [hx] at hL2
    have l1 := hL2.set i (trn s j b)
    exact h.changed (k := 1) (by omega) hbW (by rw [hx]; exact l1.2) (by rw [hx]; exact l1.1)
  have G1 : Hid ((W.setCell ⟨w.heap.size, j, none⟩ (.int .u8 (((s.data.toList.getD j 0).toNat ^^^ b : Nat) : Int))).frozen? ⟨g, i, none⟩ = false ∧ ∃ y, (W.setCell ⟨w.heap.size, j, none⟩ (.int .u8 (((s.data.toList.getD j 0).toNat ^^^ b : Nat) : Int))).cell? ⟨g, i, none⟩ = some y) := by
    have hL2 := hL.below hbW (Nat.le_refl _)
    rw [hx] at hL2
    exact ⟨hL2.free i, hL2.has hi⟩
  obtain ⟨bc, bz⟩ := hB.cell j hj
  obtain ⟨b8, hb8⟩ : ∃ b8, w.heap.size = b8 := ⟨_, rfl⟩
  obtain ⟨u, hu⟩ : ∃ u, (s.data.toList.getD j 0).toNat = u := ⟨_, rfl⟩
  have lu : u < 256 := by rw [← hu]; exact UInt8.toNat_lt _
  rw [hu, hb8] at hcb FIN G1 bc
  rw [hb8] at hcv bz
  obtain ⟨v, hv⟩ : ∃ v, v = u ^^^ b := ⟨_, rfl⟩
  have ex : bits .xor .u8 (u : Int) (b : Int) = (v : Int) := by rw [hv]; exact u8_xor_nat _ _ lu hb
  rw [← hv] at hcb FIN G1
  generalize trn s j b = s' at *
  obtain ⟨n, hn⟩ : ∃ n, (N 1).length = n := ⟨_, rfl⟩
  rw [hn] at c2 hi
  have hin : (i : Int) < (n : Int) := by omega
  have hj0 : ¬ (j : Int) < 0 := by omega
  have hj1 : ¬ (s.size : Int) ≤ (j : Int) := by omega
  have hj2 : (j : Int) < (s.size : Int) := by omega
  have g1 := G1.out.1
  obtain ⟨y, g2⟩ := G1.out.2
  clear h hx hL z1 z2 e0 c1 hbW hb8 hu hv hn hB G1
  go_enter Try.func19, Try.ntmps19
  go_wp2_with (go_at_call 31; refine kP.out.mono ?_; rintro e w1 ⟨rfl, hw1⟩; obtain rfl := hw1.symm)
  go_ret
  exact ⟨rfl, FIN.out⟩

theorem trn_ok {N : Nat → List ByteArray} {q i j : Int} (h : trnC N q i j = 0) : plc N q i = 0 ∧ ∃ k m l : Nat, q = k ∧ i = m ∧ j = l ∧ k < 2 ∧ m < (N k).length ∧ l < ((N k).getD m ByteArray.empty).size := by
  have h0 : plc N q i = 0 := by
    by_cases h0 : plc N q i = 0
    · exact h0
    · rw [trnC, if_neg h0] at h
      exact absurd h h0
  obtain ⟨k, m, rfl, rfl, hk, hm⟩ := plc_ok h0
  rw [trnC, if_pos h0] at h
  split at h
  · cases h
  · rename_i h1
    simp only [Int.toNat_natCast] at h1
    exact ⟨h0, k, m, j.toNat, rfl, rfl, by omega, hk, hm, by omega⟩
theorem turn_any {B t : Nat} {x : Nat → Value} {N : Nat → List ByteArray} {w : World} (h : Nw B t x N w) (q i j : Int) (b : Nat) (hb : b < 256) :
    Calls Try.prog 19 #[.pointer (some ⟨t, 0, none⟩), .int .i64 q, .int .i64 i, .int .i64 j, .int .u8 (b : Int)] w fun e w' => e = .returned (.int .i64 (trnC N q i j)) ∧ ∃ x', Nw B t x' (trnN N q i j b) w' ∧ Mv t x x' w w' := by
  unfold trnN
  by_cases hc : trnC N q i j = 0
  · rw [if_pos hc, hc]
    obtain ⟨_, k, m, l, rfl, rfl, rfl, hk, hm, hl⟩ := trn_ok hc
    rcases (show k = 0 ∨ k = 1 by omega) with rfl | rfl
    · exact turn_ok0 h m l b hm hl hb
    · exact turn_ok1 h m l b hm hl hb
  · rw [if_neg hc]
    by_cases h0 : plc N q i = 0
    · obtain ⟨k, m, rfl, rfl, hk, hm⟩ := plc_ok h0
      rw [trnC, if_pos h0] at hc ⊢
      simp only [Int.toNat_natCast] at hc ⊢
      by_cases hj : j < 0 ∨ (((N k).getD m ByteArray.empty).size : Int) ≤ j
      · rw [if_pos hj]
        rcases (show k = 0 ∨ k = 1 by omega) with rfl | rfl
        · refine (turn_none0 h m j b hm hj).mono ?_
          rintro e w' ⟨rfl, rfl⟩
          exact ⟨rfl, x, h, Mv.refl _ _ _⟩
        · refine (turn_none1 h m j b hm hj).mono ?_
          rintro e w' ⟨rfl, rfl⟩
          exact ⟨rfl, x, h, Mv.refl _ _ _⟩
      · rw [if_neg hj] at hc
        exact absurd rfl hc
    · rw [trnC, if_neg h0]
      refine (turn_fail h q i j b h0).mono ?_
      rintro e w' ⟨rfl, rfl⟩
      exact ⟨rfl, x, h, Mv.refl _ _ _⟩
theorem Sm.trn {N : Nat → List ByteArray} (h : Sm N) (q i j : Int) (b : Nat) : Sm (trnN N q i j b) := by
  unfold trnN
  split
  · rename_i hc
    obtain ⟨_, k, m, l, rfl, rfl, rfl, hk, hm, hl⟩ := trn_ok hc
    simp only [Int.toNat_natCast]
    refine h.upd _ (by simp; exact h.len _) (fun s' hs' => ?_)
    rcases mem_set hs' with h2 | rfl
    · exact h.each _ _ h2
    · rw [trn_size]
      exact h.each _ _ (getD_mem hm)
  · exact h

end Go.Proofs.Ytfnedohampmnoaa
