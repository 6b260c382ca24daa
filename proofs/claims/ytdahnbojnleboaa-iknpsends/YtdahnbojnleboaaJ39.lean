/- The document's Joined. -/
import Derived.Test.YtdahnbojnleboaaJ38
namespace Go.Proofs.Ytdahnbojnleboaa.I
open Go.RowKit Pg
set_option maxRecDepth 100000
attribute [local go_sem] not_any T.mf_any

/- a row bit by bit -/
def bitOk (d0 d1 : Nat) (S R : Nat → Nat → Nat) (ch : List Bool) (j i : Nat) : Prop := bt (S j 0) (S j 1) (i : Int) = (bt (R j 0) (R j 1) (i : Int) != (ch.getD j false && bt d0 d1 (i : Int)))
theorem bt_low (a b : Nat) {i : Nat} (h : i < 64) : bt a b (i : Int) = a.testBit i := by
  unfold bt
  rw [if_pos (by omega), if_pos (by omega)]
  simp
theorem bt_high (a b : Nat) {i : Nat} (h : i < 64) : bt a b ((64 + i : Nat) : Int) = b.testBit i := by
  unfold bt
  rw [if_pos (by omega), if_neg (by omega)]
  congr 1
  omega
theorem tm_bit (t : Bool) (d i : Nat) : (tm t d).testBit i = (t && d.testBit i) := by
  unfold tm
  cases t <;> simp
theorem high_bit {x i : Nat} (h : x < 18446744073709551616) (hi : ¬ i < 64) : x.testBit i = false := Nat.testBit_lt_two_pow (Nat.lt_of_lt_of_le (show x < 2 ^ 64 from h) (Nat.pow_le_pow_right (by omega) (by omega)))
theorem word_eq {x y d : Nat} {t : Bool} (hx : x < 18446744073709551616) (hy : y < 18446744073709551616) (hd : d < 18446744073709551616) : x = y ^^^ tm t d ↔ ∀ i, i < 64 → x.testBit i = (y.testBit i != (t && d.testBit i)) := by
  constructor
  · rintro rfl i _
    rw [Nat.testBit_xor, tm_bit]
  · intro h
    apply Nat.eq_of_testBit_eq
    intro i
    rw [Nat.testBit_xor, tm_bit]
    by_cases hi : i < 64
    · rw [h i hi]
    · rw [high_bit hx hi, high_bit hy hi, high_bit hd hi]
      simp
theorem rowOk_bits {d0 d1 : Nat} {S R : Nat → Nat → Nat} {ch : List Bool} {j : Nat} (hS : ∀ j p, S j p < 18446744073709551616) (hR : ∀ j p, R j p < 18446744073709551616) (h0 : d0 < 18446744073709551616) (h1 : d1 < 18446744073709551616) :
    rowOk d0 d1 S R ch j ↔ ∀ i, i < 128 → bitOk d0 d1 S R ch j i := by
  unfold rowOk
  rw [word_eq (hS j 0) (hR j 0) h0, word_eq (hS j 1) (hR j 1) h1]
  constructor
  · rintro ⟨ha, hb⟩ i hi
    unfold bitOk
    by_cases h : i < 64
    · rw [bt_low _ _ h, bt_low _ _ h, bt_low _ _ h]
      exact ha i h
    · obtain ⟨k, rfl⟩ : ∃ k, i = 64 + k := ⟨i - 64, by omega⟩
      rw [bt_high _ _ (by omega), bt_high _ _ (by omega), bt_high _ _ (by omega)]
      exact hb k (by omega)
  · intro h
    refine ⟨fun i hi => ?_, fun i hi => ?_⟩
    · have := h i (by omega)
      unfold bitOk at this
      rwa [bt_low _ _ hi, bt_low _ _ hi, bt_low _ _ hi] at this
    · have := h (64 + i) (by omega)
      unfold bitOk at this
      rwa [bt_high _ _ hi, bt_high _ _ hi, bt_high _ _ hi] at this

theorem rjoined_len (d0 d1 m mr N c cr cb : Nat) (a ar av : Option Addr) (S R : Nat → Nat → Nat) (ch : List Bool) (w : World) (_hm : m ≤ 4194304) (hmr : mr ≤ 4194304) (_hN : N ≤ 4194304) (hne : ¬ (m = mr ∧ m = N)) :
    Calls Try.prog 17 #[rw2 d0 d1, .slice a m c, .slice ar mr cr, .slice av N cb] w fun e w' => e = .returned (.bool (jn d0 d1 S R m mr N ch)) ∧ Below w.heap.size w w' := by
  rw [show jn d0 d1 S R m mr N ch = false from decide_eq_false (fun h => hne ⟨h.1, h.2.1⟩)]
  have B1 := hide1 (On.start w (row2 d0 d1)).bel
  unfold row2 at B1
  unfold rw2
  by_cases h1 : m = mr
  · subst h1
    have h2 : m ≠ N := fun h => hne ⟨rfl, h⟩
    have t1 : ((m : Int) != (m : Int)) = false := by simp
    have t2 : ((m : Int) != (N : Int)) = true := by rw [bne_iff_ne]; omega
    clear hne
    go_enter Try.func17, Try.ntmps17
    go_wp2
    go_ret
    exact ⟨rfl, B1.out⟩
  · have t1 : ((m : Int) != (mr : Int)) = true := by rw [bne_iff_ne]; omega
    clear hne
    go_enter Try.func17, Try.ntmps17
    go_wp2
    go_ret
    exact ⟨rfl, B1.out⟩

set_option maxHeartbeats 8000000 in
theorem rjoined_same (d0 d1 m c c2 c3 : Nat) (a ar av : Option Addr) (S R : Nat → Nat → Nat) (ch : List Bool) (w : World) (hS : T.Rws w m a S) (hR : T.Rws w m ar R) (hv : T.Bl w m av ch) (hm : m ≤ 4194304) (hd0 : d0 < 18446744073709551616) (hd1 : d1 < 18446744073709551616) :
    Calls Try.prog 17 #[rw2 d0 d1, .slice a m c, .slice ar m c2, .slice av m c3] w fun e w' => e = .returned (.bool (jn d0 d1 S R m m m ch)) ∧ Below w.heap.size w w' := by
  have HSR := hide1 hS
  have HRR := hide1 hR
  have HVC := hide1 hv
  obtain ⟨W0, hW0⟩ : ∃ W0, W0 = w.alloc (row2 d0 d1) := ⟨_, rfl⟩
  have A0 : Hid (On w W0 (row2 d0 d1)) := by rw [hW0]; exact On.start _ _
  have HRB : Hid (∀ j, rowOk d0 d1 S R ch j ↔ ∀ i, i < 128 → bitOk d0 d1 S R ch j i) := fun j => rowOk_bits hS.lt hR.lt hd0 hd1
  unfold row2 at hW0
  clear hv hS hR
  have t1 : ((m : Int) != (m : Int)) = false := by simp
  show Calls _ _ #[.agg #[.int .u64 (d0 : Int), .int .u64 (d1 : Int)], _, _, _] _ _
  go_enter Try.func17, Try.ntmps17
  go_upto_region 1 with (fail)
  rw [← hW0]
  clear hW0
  go_wp2
  go_loopw [9] (fun iv wr => ∃ j : Nat, j ≤ m ∧ iv = .int .i64 j ∧ (∀ i, i < j → rowOk d0 d1 S R ch i) ∧ On w wr (row2 d0 d1)) (fun iv _ => m - (intOf iv).toNat)
  case atStart => exact ⟨0, Nat.zero_le _, rfl, fun i hi => by omega, A0.out⟩
  case round =>
    obtain ⟨j, hj, rfl, hok, hA⟩ := hrel
    clear A0
    have HA := hide1 hA
    have HOK := hide1 hok
    clear hA hok
    by_cases hlt : j < m
    · have hlt' : (j : Int) < (m : Int) := by omega
      obtain ⟨g, o, rfl, c0, c1⟩ := HSR.out.at' j hlt
      obtain ⟨gr, o2, rfl, e0, e1⟩ := HRR.out.at' j hlt
      have hlc : j < ch.length := by rw [HVC.out.len]; exact hlt
      obtain ⟨gc, o3, rfl, z0⟩ := HVC.out.at' j (ch[j]'hlc) (List.getElem?_eq_getElem hlc)
      have z0' : w.cell? ⟨gc, o3 + j, none⟩ = some (.bool (ch.getD j false)) := by rw [z0, List.getD_eq_getElem?_getD, List.getElem?_eq_getElem hlc]; rfl
      have hx0l := HSR.out.lt j 0
      have hx1l := HSR.out.lt j 1
      have hy0l := HRR.out.lt j 0
      have hy1l := HRR.out.lt j 1
      have HBO : Hid (∀ i : Nat, bitOk d0 d1 S R ch j i ↔ bt (S j 0) (S j 1) (i : Int) = (bt (R j 0) (R j 1) (i : Int) != (ch.getD j false && bt d0 d1 (i : Int)))) := fun i => Iff.rfl
      obtain ⟨x0, hx0⟩ : ∃ x, x = S j 0 := ⟨_, rfl⟩
      obtain ⟨x1, hx1⟩ : ∃ x, x = S j 1 := ⟨_, rfl⟩
      obtain ⟨y0, hy0⟩ : ∃ x, x = R j 0 := ⟨_, rfl⟩
      obtain ⟨y1, hy1⟩ : ∃ x, x = R j 1 := ⟨_, rfl⟩
      obtain ⟨cj, hcj⟩ : ∃ x, x = ch.getD j false := ⟨_, rfl⟩
      rw [← hx0] at c0 hx0l HBO
      rw [← hx1] at c1 hx1l HBO
      rw [← hy0] at e0 hy0l HBO
      rw [← hy1] at e1 hy1l HBO
      rw [← hcj] at z0' HBO
      have Z0 := hide1 z0'
      have C0 := hide1 c0
      have C1 := hide1 c1
      have E0 := hide1 e0
      have E1 := hide1 e1
      clear hx0 hx1 hy0 hy1 hcj c0 c1 e0 e1 z0 z0' hlc
      go_wp2
      go_loopw [10] (fun iv wr => ∃ i : Nat, i ≤ 128 ∧ iv = .int .i64 i ∧ (∀ k, k < i → bitOk d0 d1 S R ch j k) ∧ On w wr (row2 d0 d1)) (fun iv _ => 128 - (intOf iv).toNat)
      case atStart => exact ⟨0, Nat.zero_le _, rfl, fun i hi => by omega, HA.out⟩
      case round =>
        obtain ⟨i, hi, rfl, hbk, hA⟩ := hrel
        clear HA
        have HA := hide1 hA
        have HBK := hide1 hbk
        clear hA hbk
        by_cases hlt2 : i < 128
        · have hlt2' : (i : Int) < 128 := by omega
          have kX := fun W => hide1 (rbit_any x0 x1 (i : Int) W)
          have kY := fun W => hide1 (rbit_any y0 y1 (i : Int) W)
          have kD := fun W => hide1 (rbit_any d0 d1 (i : Int) W)
          have hBO := HBO.out i
          generalize bt x0 x1 (i : Int) = bx at *
          generalize bt y0 y1 (i : Int) = by' at *
          generalize bt d0 d1 (i : Int) = bd at *
          have HB1 := hide1 hBO
          have up := fun {p : Addr} {v : Value} (W : World) (hW : Below wr.heap.size wr W) (hc : w.cell? p = some v) (hs : p.block < w.heap.size) => (hW.cell (p := p) (Nat.lt_of_lt_of_le hs HA.out.bel.size)).trans ((HA.out.bel.cell (p := p) hs).trans hc)
          have CX : Hid (∀ W, Below wr.heap.size wr W → W.cell? ⟨g, o + j * 2, none⟩ = some (.int .u64 (x0 : Int)) ∧ W.cell? ⟨g, o + j * 2 + 1, none⟩ = some (.int .u64 (x1 : Int))) := fun W hW =>
            ⟨up W hW C0.out (T.lt_cell C0.out), up W hW C1.out (T.lt_cell C1.out)⟩
          have CY : Hid (∀ W, Below wr.heap.size wr W → W.cell? ⟨gr, o2 + j * 2, none⟩ = some (.int .u64 (y0 : Int)) ∧ W.cell? ⟨gr, o2 + j * 2 + 1, none⟩ = some (.int .u64 (y1 : Int))) := fun W hW =>
            ⟨up W hW E0.out (T.lt_cell E0.out), up W hW E1.out (T.lt_cell E1.out)⟩
          have CC : Hid (∀ W, Below wr.heap.size wr W → W.cell? ⟨gc, o3 + j, none⟩ = some (.bool cj)) := fun W hW => up W hW Z0.out (T.lt_cell Z0.out)
          have CD : Hid (∀ W, Below wr.heap.size wr W → W.cell? ⟨w.heap.size, 0, none⟩ = some (.int .u64 (d0 : Int)) ∧ W.cell? ⟨w.heap.size, 1, none⟩ = some (.int .u64 (d1 : Int))) := fun W hW => by
            have h := T.box2 ((hW.block _ (T.lt_heap HA.out.h1)).trans HA.out.h1)
            exact ⟨h.1, h.2.1⟩
          clear up hBO
          cases cj with
          | true =>
            obtain ⟨z, hz⟩ : ∃ z, z = (bx != (by' != bd)) := ⟨_, rfl⟩
            have HZ := hide1 hz
            have HB2 : Hid (bitOk d0 d1 S R ch j i ↔ z = false) := by rw [hz, bne_eq_false_iff_eq]; exact HB1.out
            clear HB1 hz
            go_upto_region 9 with (fail)
            refine region_f (F := []) (S := fun W' => Below wr.heap.size wr W') (by kernel_rfl) (Below.refl _ _).drew (fun hS => ?_)
            refine take_p 0 33 (.slice (some ⟨g, o, none⟩) m c) rfl rfl (by kernel_rfl) (by kernel_rfl) (by kernel_rfl) (fun _ _ _ h => h) rfl (fun w => by go_simp) ?_
            try simp only [List.setIfInBounds_toArray, List.set_cons_zero, List.set_cons_succ]
            refine take_p 1 34 (.int .i64 (j : Int)) rfl rfl (by kernel_rfl) (by kernel_rfl) (by kernel_rfl) (fun _ _ _ h => h) rfl (fun w => by go_simp) ?_
            try simp only [List.setIfInBounds_toArray, List.set_cons_zero, List.set_cons_succ]
            refine take_p 2 35 (.pointer (some ⟨g, o + j * 2, none⟩)) rfl rfl (by kernel_rfl) (by kernel_rfl) (by kernel_rfl) (fun _ _ _ h => h) rfl (fun w => by go_simp) ?_
            try simp only [List.setIfInBounds_toArray, List.set_cons_zero, List.set_cons_succ]
            refine take_f 3 36 (.agg #[.int .u64 (x0 : Int), .int .u64 (x1 : Int)]) [5, 11, 16, 17, 18, 19, 20, 21, 22] rfl rfl (by kernel_rfl) (by kernel_rfl) (by kernel_rfl) (by kernel_rfl) (by kernel_rfl) (by kernel_rfl) (fun _ _ _ h => h) rfl (fun w hSw => by have h1 := (CX.out w hSw).1; have h2 := (CX.out w hSw).2; go_simp) hS ?_
            try simp only [List.setIfInBounds_toArray, List.set_cons_zero, List.set_cons_succ]
            refine take_p 4 37 (.int .i64 (i : Int)) rfl rfl (by kernel_rfl) (by kernel_rfl) (by kernel_rfl) (fun _ _ _ h => h) rfl (fun w => by go_simp) ?_
            try simp only [List.setIfInBounds_toArray, List.set_cons_zero, List.set_cons_succ]
            refine take_p 6 39 (.slice (some ⟨gr, o2, none⟩) m c2) rfl rfl (by kernel_rfl) (by kernel_rfl) (by kernel_rfl) (fun _ _ _ h => h) rfl (fun w => by go_simp) ?_
            try simp only [List.setIfInBounds_toArray, List.set_cons_zero, List.set_cons_succ]
            refine take_p 7 40 (.int .i64 (j : Int)) rfl rfl (by kernel_rfl) (by kernel_rfl) (by kernel_rfl) (fun _ _ _ h => h) rfl (fun w => by go_simp) ?_
            try simp only [List.setIfInBounds_toArray, List.set_cons_zero, List.set_cons_succ]
            refine take_p 8 41 (.pointer (some ⟨gr, o2 + j * 2, none⟩)) rfl rfl (by kernel_rfl) (by kernel_rfl) (by kernel_rfl) (fun _ _ _ h => h) rfl (fun w => by go_simp) ?_
            try simp only [List.setIfInBounds_toArray, List.set_cons_zero, List.set_cons_succ]
            refine take_f 9 42 (.agg #[.int .u64 (y0 : Int), .int .u64 (y1 : Int)]) [11, 16, 17, 18, 19, 20, 21, 22] rfl rfl (by kernel_rfl) (by kernel_rfl) (by kernel_rfl) (by kernel_rfl) (by kernel_rfl) (by kernel_rfl) (fun _ _ _ h => h) rfl (fun w hSw => by have h1 := (CY.out w hSw).1; have h2 := (CY.out w hSw).2; go_simp) hS ?_
            try simp only [List.setIfInBounds_toArray, List.set_cons_zero, List.set_cons_succ]
            refine take_p 10 43 (.int .i64 (i : Int)) rfl rfl (by kernel_rfl) (by kernel_rfl) (by kernel_rfl) (fun _ _ _ h => h) rfl (fun w => by go_simp) ?_
            try simp only [List.setIfInBounds_toArray, List.set_cons_zero, List.set_cons_succ]
            refine take_p 12 45 (.slice (some ⟨gc, o3, none⟩) m c3) rfl rfl (by kernel_rfl) (by kernel_rfl) (by kernel_rfl) (fun _ _ _ h => h) rfl (fun w => by go_simp) ?_
            try simp only [List.setIfInBounds_toArray, List.set_cons_zero, List.set_cons_succ]
            refine take_p 13 46 (.int .i64 (j : Int)) rfl rfl (by kernel_rfl) (by kernel_rfl) (by kernel_rfl) (fun _ _ _ h => h) rfl (fun w => by go_simp) ?_
            try simp only [List.setIfInBounds_toArray, List.set_cons_zero, List.set_cons_succ]
            refine take_p 14 47 (.pointer (some ⟨gc, o3 + j, none⟩)) rfl rfl (by kernel_rfl) (by kernel_rfl) (by kernel_rfl) (fun _ _ _ h => h) rfl (fun w => by go_simp) ?_
            try simp only [List.setIfInBounds_toArray, List.set_cons_zero, List.set_cons_succ]
            refine take_f 15 48 (.bool true) [16, 17, 18, 19, 20, 21, 22] rfl rfl (by kernel_rfl) (by kernel_rfl) (by kernel_rfl) (by kernel_rfl) (by kernel_rfl) (by kernel_rfl) (fun _ _ _ h => h) rfl (fun w hSw => by have h1 := CC.out w hSw; go_simp) hS ?_
            try simp only [List.setIfInBounds_toArray, List.set_cons_zero, List.set_cons_succ]
            refine ready_f 5 (o := { dst := some 38, op := Op.call { callee := Callee.value (Operand.func 35), args := #[Operand.tmp 36, Operand.tmp 37], argTypes := #[28, 3] }, type := 4, pos := "ref.go:109", after := #[{ on := 3, ground := Ground.data }, { on := 4, ground := Ground.data }], guard := none }) (by kernel_rfl) rfl (fun K hK => ?_)
            go_simp
            refine (kX _).out.mono ?_
            rintro e w1 ⟨rfl, hb1⟩
            have hS1 : Below wr.heap.size wr w1 := hS.trans (hb1.mono hS.size)
            refine hK.out _ _ (fun _ _ => hS1) ?_
            clear hK K
            try simp only [Act.put, List.setIfInBounds_toArray, List.set_cons_zero, List.set_cons_succ]
            refine ready_f 11 (o := { dst := some 44, op := Op.call { callee := Callee.value (Operand.func 35), args := #[Operand.tmp 42, Operand.tmp 43], argTypes := #[28, 3] }, type := 4, pos := "ref.go:109", after := #[{ on := 9, ground := Ground.data }, { on := 10, ground := Ground.data }, { on := 5, ground := Ground.chain }], guard := none }) (by kernel_rfl) rfl (fun K hK => ?_)
            go_simp
            refine (kY _).out.mono ?_
            rintro e w2 ⟨rfl, hb2⟩
            have hS2 : Below wr.heap.size wr w2 := hS1.trans (hb2.mono hS1.size)
            refine hK.out _ _ (fun _ _ => hS2) ?_
            clear hK K
            try simp only [Act.put, List.setIfInBounds_toArray, List.set_cons_zero, List.set_cons_succ]
            refine take_p 16 49 (.bool true) rfl rfl (by kernel_rfl) (by kernel_rfl) (by kernel_rfl) (fun _ _ _ h => h) rfl (fun w => by go_simp) ?_
            try simp only [List.setIfInBounds_toArray, List.set_cons_zero, List.set_cons_succ]
            refine take_p 18 51 (.int .i64 (i : Int)) rfl rfl (by kernel_rfl) (by kernel_rfl) (by kernel_rfl) (fun _ _ _ h => h) rfl (fun w => by go_simp) ?_
            try simp only [List.setIfInBounds_toArray, List.set_cons_zero, List.set_cons_succ]
            have hD := CD.out _ hS2
            refine ready_f 17 (o := { dst := some 50, op := Op.load 28 (Operand.tmp 4), type := 28, pos := "ref.go:109", after := #[{ on := 16, ground := Ground.guard }], guard := some (16, true) }) (by kernel_rfl) rfl (fun K hK => ?_)
            rw [if_pos (by rfl)]
            have h1 := hD.1
            have h2 := hD.2
            go_simp
            refine hK.out _ _ (fun _ h => h) ?_
            clear hK K
            try simp only [Act.put, List.setIfInBounds_toArray, List.set_cons_zero, List.set_cons_succ]
            refine ready_f 19 (o := { dst := some 52, op := Op.call { callee := Callee.value (Operand.func 35), args := #[Operand.tmp 50, Operand.tmp 51], argTypes := #[28, 3] }, type := 4, pos := "ref.go:109", after := #[{ on := 17, ground := Ground.data }, { on := 18, ground := Ground.data }, { on := 16, ground := Ground.chain }, { on := 16, ground := Ground.guard }], guard := some (16, true) }) (by kernel_rfl) rfl (fun K hK => ?_)
            go_simp
            refine (kD _).out.mono ?_
            rintro e w3 ⟨rfl, hb3⟩
            have hS3 : Below wr.heap.size wr w3 := hS2.trans (hb3.mono hS2.size)
            refine hK.out _ _ (fun _ _ => hS3) ?_
            clear hK K
            try simp only [Act.put, List.setIfInBounds_toArray, List.set_cons_zero, List.set_cons_succ]
            refine take_p 20 53 (.bool bd) rfl rfl (by kernel_rfl) (by kernel_rfl) (by kernel_rfl) (fun _ _ _ h => h) rfl (fun w => by go_simp) ?_
            try simp only [List.setIfInBounds_toArray, List.set_cons_zero, List.set_cons_succ]
            refine take_p 21 54 ((.bool (by' != bd))) rfl rfl (by kernel_rfl) (by kernel_rfl) (by kernel_rfl) (fun _ _ _ h => h) rfl (fun w => by go_simp; cases by' <;> cases bd <;> rfl) ?_
            try simp only [List.setIfInBounds_toArray, List.set_cons_zero, List.set_cons_succ]
            refine take_p 22 55 ((.bool z)) rfl rfl (by kernel_rfl) (by kernel_rfl) (by kernel_rfl) (fun _ _ _ h => h) rfl (fun w => by rw [HZ.out]; go_simp; cases bx <;> cases by' <;> cases bd <;> rfl) ?_
            try simp only [List.setIfInBounds_toArray, List.set_cons_zero, List.set_cons_succ]
            refine done_f (by kernel_rfl) ?_ _
            have A9 := hide1 (HA.out.to hS3)
            clear hS hS1 hS2 hS3 kX kY kD CX CY CC CD hD
            clear HZ
            cases z with
            | false =>
              have HQ := hide1 (HB2.out.2 rfl)
              go_wp2
              go_roundw
              case rel => exact ⟨i + 1, by omega, by go_num, fun k hk => by
                by_cases e : k = i
                · rw [e]; exact HQ.out
                · exact HBK.out k (by omega), A9.out⟩
              case measure => simp [intOf]; omega
            | true =>
              have HQ : Hid (jn d0 d1 S R m m m ch = false) := decide_eq_false (fun h => by cases HB2.out.1 ((HRB.out j).1 (h.2.2 j hlt) i hlt2))
              go_wp2
              go_ret
              rw [HQ.out]
              exact ⟨rfl, A9.out.bel⟩
          | false =>
            obtain ⟨z, hz⟩ : ∃ z, z = (bx != (by' != false)) := ⟨_, rfl⟩
            have HZ := hide1 hz
            have HB2 : Hid (bitOk d0 d1 S R ch j i ↔ z = false) := by rw [hz, bne_eq_false_iff_eq]; exact HB1.out
            clear HB1 hz
            go_upto_region 9 with (fail)
            refine region_f (F := []) (S := fun W' => Below wr.heap.size wr W') (by kernel_rfl) (Below.refl _ _).drew (fun hS => ?_)
            refine take_p 0 33 (.slice (some ⟨g, o, none⟩) m c) rfl rfl (by kernel_rfl) (by kernel_rfl) (by kernel_rfl) (fun _ _ _ h => h) rfl (fun w => by go_simp) ?_
            try simp only [List.setIfInBounds_toArray, List.set_cons_zero, List.set_cons_succ]
            refine take_p 1 34 (.int .i64 (j : Int)) rfl rfl (by kernel_rfl) (by kernel_rfl) (by kernel_rfl) (fun _ _ _ h => h) rfl (fun w => by go_simp) ?_
            try simp only [List.setIfInBounds_toArray, List.set_cons_zero, List.set_cons_succ]
            refine take_p 2 35 (.pointer (some ⟨g, o + j * 2, none⟩)) rfl rfl (by kernel_rfl) (by kernel_rfl) (by kernel_rfl) (fun _ _ _ h => h) rfl (fun w => by go_simp) ?_
            try simp only [List.setIfInBounds_toArray, List.set_cons_zero, List.set_cons_succ]
            refine take_f 3 36 (.agg #[.int .u64 (x0 : Int), .int .u64 (x1 : Int)]) [5, 11, 16, 17, 18, 19, 20, 21, 22] rfl rfl (by kernel_rfl) (by kernel_rfl) (by kernel_rfl) (by kernel_rfl) (by kernel_rfl) (by kernel_rfl) (fun _ _ _ h => h) rfl (fun w hSw => by have h1 := (CX.out w hSw).1; have h2 := (CX.out w hSw).2; go_simp) hS ?_
            try simp only [List.setIfInBounds_toArray, List.set_cons_zero, List.set_cons_succ]
            refine take_p 4 37 (.int .i64 (i : Int)) rfl rfl (by kernel_rfl) (by kernel_rfl) (by kernel_rfl) (fun _ _ _ h => h) rfl (fun w => by go_simp) ?_
            try simp only [List.setIfInBounds_toArray, List.set_cons_zero, List.set_cons_succ]
            refine take_p 6 39 (.slice (some ⟨gr, o2, none⟩) m c2) rfl rfl (by kernel_rfl) (by kernel_rfl) (by kernel_rfl) (fun _ _ _ h => h) rfl (fun w => by go_simp) ?_
            try simp only [List.setIfInBounds_toArray, List.set_cons_zero, List.set_cons_succ]
            refine take_p 7 40 (.int .i64 (j : Int)) rfl rfl (by kernel_rfl) (by kernel_rfl) (by kernel_rfl) (fun _ _ _ h => h) rfl (fun w => by go_simp) ?_
            try simp only [List.setIfInBounds_toArray, List.set_cons_zero, List.set_cons_succ]
            refine take_p 8 41 (.pointer (some ⟨gr, o2 + j * 2, none⟩)) rfl rfl (by kernel_rfl) (by kernel_rfl) (by kernel_rfl) (fun _ _ _ h => h) rfl (fun w => by go_simp) ?_
            try simp only [List.setIfInBounds_toArray, List.set_cons_zero, List.set_cons_succ]
            refine take_f 9 42 (.agg #[.int .u64 (y0 : Int), .int .u64 (y1 : Int)]) [11, 16, 17, 18, 19, 20, 21, 22] rfl rfl (by kernel_rfl) (by kernel_rfl) (by kernel_rfl) (by kernel_rfl) (by kernel_rfl) (by kernel_rfl) (fun _ _ _ h => h) rfl (fun w hSw => by have h1 := (CY.out w hSw).1; have h2 := (CY.out w hSw).2; go_simp) hS ?_
            try simp only [List.setIfInBounds_toArray, List.set_cons_zero, List.set_cons_succ]
            refine take_p 10 43 (.int .i64 (i : Int)) rfl rfl (by kernel_rfl) (by kernel_rfl) (by kernel_rfl) (fun _ _ _ h => h) rfl (fun w => by go_simp) ?_
            try simp only [List.setIfInBounds_toArray, List.set_cons_zero, List.set_cons_succ]
            refine take_p 12 45 (.slice (some ⟨gc, o3, none⟩) m c3) rfl rfl (by kernel_rfl) (by kernel_rfl) (by kernel_rfl) (fun _ _ _ h => h) rfl (fun w => by go_simp) ?_
            try simp only [List.setIfInBounds_toArray, List.set_cons_zero, List.set_cons_succ]
            refine take_p 13 46 (.int .i64 (j : Int)) rfl rfl (by kernel_rfl) (by kernel_rfl) (by kernel_rfl) (fun _ _ _ h => h) rfl (fun w => by go_simp) ?_
            try simp only [List.setIfInBounds_toArray, List.set_cons_zero, List.set_cons_succ]
            refine take_p 14 47 (.pointer (some ⟨gc, o3 + j, none⟩)) rfl rfl (by kernel_rfl) (by kernel_rfl) (by kernel_rfl) (fun _ _ _ h => h) rfl (fun w => by go_simp) ?_
            try simp only [List.setIfInBounds_toArray, List.set_cons_zero, List.set_cons_succ]
            refine take_f 15 48 (.bool false) [16, 17, 18, 19, 20, 21, 22] rfl rfl (by kernel_rfl) (by kernel_rfl) (by kernel_rfl) (by kernel_rfl) (by kernel_rfl) (by kernel_rfl) (fun _ _ _ h => h) rfl (fun w hSw => by have h1 := CC.out w hSw; go_simp) hS ?_
            try simp only [List.setIfInBounds_toArray, List.set_cons_zero, List.set_cons_succ]
            refine ready_f 5 (o := { dst := some 38, op := Op.call { callee := Callee.value (Operand.func 35), args := #[Operand.tmp 36, Operand.tmp 37], argTypes := #[28, 3] }, type := 4, pos := "ref.go:109", after := #[{ on := 3, ground := Ground.data }, { on := 4, ground := Ground.data }], guard := none }) (by kernel_rfl) rfl (fun K hK => ?_)
            go_simp
            refine (kX _).out.mono ?_
            rintro e w1 ⟨rfl, hb1⟩
            have hS1 : Below wr.heap.size wr w1 := hS.trans (hb1.mono hS.size)
            refine hK.out _ _ (fun _ _ => hS1) ?_
            clear hK K
            try simp only [Act.put, List.setIfInBounds_toArray, List.set_cons_zero, List.set_cons_succ]
            refine ready_f 11 (o := { dst := some 44, op := Op.call { callee := Callee.value (Operand.func 35), args := #[Operand.tmp 42, Operand.tmp 43], argTypes := #[28, 3] }, type := 4, pos := "ref.go:109", after := #[{ on := 9, ground := Ground.data }, { on := 10, ground := Ground.data }, { on := 5, ground := Ground.chain }], guard := none }) (by kernel_rfl) rfl (fun K hK => ?_)
            go_simp
            refine (kY _).out.mono ?_
            rintro e w2 ⟨rfl, hb2⟩
            have hS2 : Below wr.heap.size wr w2 := hS1.trans (hb2.mono hS1.size)
            refine hK.out _ _ (fun _ _ => hS2) ?_
            clear hK K
            try simp only [Act.put, List.setIfInBounds_toArray, List.set_cons_zero, List.set_cons_succ]
            refine take_p 16 49 (.bool false) rfl rfl (by kernel_rfl) (by kernel_rfl) (by kernel_rfl) (fun _ _ _ h => h) rfl (fun w => by go_simp) ?_
            try simp only [List.setIfInBounds_toArray, List.set_cons_zero, List.set_cons_succ]
            refine skip_p 17 50 rfl rfl (by kernel_rfl) (by kernel_rfl) (by kernel_rfl) (fun _ _ _ h => h) rfl ?_
            try simp only [List.setIfInBounds_toArray, List.set_cons_zero, List.set_cons_succ]
            refine skip_p 18 51 rfl rfl (by kernel_rfl) (by kernel_rfl) (by kernel_rfl) (fun _ _ _ h => h) rfl ?_
            try simp only [List.setIfInBounds_toArray, List.set_cons_zero, List.set_cons_succ]
            refine skip_p 19 52 rfl rfl (by kernel_rfl) (by kernel_rfl) (by kernel_rfl) (fun _ _ _ h => h) rfl ?_
            try simp only [List.setIfInBounds_toArray, List.set_cons_zero, List.set_cons_succ]
            have hS3 := hS2
            refine take_p 20 53 (.bool false) rfl rfl (by kernel_rfl) (by kernel_rfl) (by kernel_rfl) (fun _ _ _ h => h) rfl (fun w => by go_simp) ?_
            try simp only [List.setIfInBounds_toArray, List.set_cons_zero, List.set_cons_succ]
            refine take_p 21 54 ((.bool (by' != false))) rfl rfl (by kernel_rfl) (by kernel_rfl) (by kernel_rfl) (fun _ _ _ h => h) rfl (fun w => by go_simp) ?_
            try simp only [List.setIfInBounds_toArray, List.set_cons_zero, List.set_cons_succ]
            refine take_p 22 55 ((.bool z)) rfl rfl (by kernel_rfl) (by kernel_rfl) (by kernel_rfl) (fun _ _ _ h => h) rfl (fun w => by rw [HZ.out]; go_simp; cases bx <;> cases by' <;> rfl) ?_
            try simp only [List.setIfInBounds_toArray, List.set_cons_zero, List.set_cons_succ]
            refine done_f (by kernel_rfl) ?_ _
            have A9 := hide1 (HA.out.to hS3)
            clear hS hS1 hS2 hS3 kX kY kD CX CY CC CD
            clear HZ
            cases z with
            | false =>
              have HQ := hide1 (HB2.out.2 rfl)
              go_wp2
              go_roundw
              case rel => exact ⟨i + 1, by omega, by go_num, fun k hk => by
                by_cases e : k = i
                · rw [e]; exact HQ.out
                · exact HBK.out k (by omega), A9.out⟩
              case measure => simp [intOf]; omega
            | true =>
              have HQ : Hid (jn d0 d1 S R m m m ch = false) := decide_eq_false (fun h => by cases HB2.out.1 ((HRB.out j).1 (h.2.2 j hlt) i hlt2))
              go_wp2
              go_ret
              rw [HQ.out]
              exact ⟨rfl, A9.out.bel⟩
        · obtain rfl : i = 128 := by omega
          have HQ := hide1 ((HRB.out j).2 HBK.out)
          go_wp2
          go_roundw
          case rel => exact ⟨j + 1, by omega, by go_num, fun k hk => by
            by_cases e : k = j
            · rw [e]; exact HQ.out
            · exact HOK.out k (by omega), HA.out⟩
          case measure => simp [intOf]; omega
    · obtain rfl : j = m := by omega
      have hlt' : ¬ (j : Int) < (j : Int) := by omega
      have HQ : Hid (jn d0 d1 S R j j j ch = true) := decide_eq_true ⟨rfl, rfl, HOK.out⟩
      go_wp2
      go_ret
      rw [HQ.out]
      exact ⟨rfl, HA.out.bel⟩
theorem rjoined_any (d0 d1 m mr N c cr cb : Nat) (a ar av : Option Addr) (S R : Nat → Nat → Nat) (ch : List Bool) (w : World) (hS : T.Rws w m a S) (hR : T.Rws w mr ar R) (hv : T.Bl w N av ch) (hm : m ≤ 4194304) (hmr : mr ≤ 4194304) (hN : N ≤ 4194304) (hd0 : d0 < 18446744073709551616) (hd1 : d1 < 18446744073709551616) :
    Calls Try.prog 17 #[rw2 d0 d1, .slice a m c, .slice ar mr cr, .slice av N cb] w fun e w' => e = .returned (.bool (jn d0 d1 S R m mr N ch)) ∧ Below w.heap.size w w' := by
  by_cases h : m = mr ∧ m = N
  · obtain ⟨rfl, rfl⟩ := h
    exact rjoined_same d0 d1 m c cr cb a ar av S R ch w hS hR hv hm hd0 hd1
  · exact rjoined_len d0 d1 m mr N c cr cb a ar av S R ch w hm hmr hN h
end Go.Proofs.Ytdahnbojnleboaa.I
