/- A row's bytes: the program's, and the document's. The chapter's example; BaseotRows. -/
import Derived.Test.YtlkkninnfiaedaaDoorJ10
import Derived.Test.YtlkkninnfiaedaaDoorJ16
namespace Go.Proofs.YtlkkninnfiaedaaDoor
open Go.RowKit Pg
set_option maxRecDepth 100000
attribute [local go_sem] not_any

def big (a b : Nat) : Nat := a + 18446744073709551616 * b
def byP (a b i : Nat) : Nat := big a b / 2 ^ (8 * i) % 256
def bysP (a b : Nat) : Nat → List Nat
  | 0 => []
  | k + 1 => bysP a b k ++ [byP a b k]
theorem bysP_length (a b : Nat) : ∀ k, (bysP a b k).length = k
  | 0 => rfl
  | k + 1 => by rw [bysP, List.length_append, bysP_length]; rfl
theorem bysP_lt (a b : Nat) : ∀ k, Lt 256 (bysP a b k)
  | 0 => fun x h => by simp [bysP] at h
  | k + 1 => fun x h => by
    rw [bysP, List.mem_append] at h
    rcases h with h | h
    · exact bysP_lt a b k x h
    · rw [List.mem_singleton.1 h, byP]; exact Nat.mod_lt _ (by omega)

theorem by_lo {a b : Nat} (ha : a < 18446744073709551616) : ∀ {i : Nat}, i < 8 → a / 2 ^ (8 * i) % 256 = byP a b i
  | 0, _ => by have := ha; unfold byP big; omega
  | 1, _ => by have := ha; unfold byP big; omega
  | 2, _ => by have := ha; unfold byP big; omega
  | 3, _ => by have := ha; unfold byP big; omega
  | 4, _ => by have := ha; unfold byP big; omega
  | 5, _ => by have := ha; unfold byP big; omega
  | 6, _ => by have := ha; unfold byP big; omega
  | 7, _ => by have := ha; unfold byP big; omega
  | i + 8, h => by omega
theorem by_hi {a b : Nat} (ha : a < 18446744073709551616) (i : Nat) : b / 2 ^ (8 * i) % 256 = byP a b (8 + i) := by
  unfold byP big
  rw [show 8 * (8 + i) = 64 + 8 * i by omega, Nat.pow_add, ← Nat.div_div_eq_div_mul, show (a + 18446744073709551616 * b) / 2 ^ 64 = b by omega]

theorem big_bit {a b k : Nat} (ha : a < 18446744073709551616) (h : k < 128) : bt a b (k : Int) = (big a b).testBit k := by
  rw [big, show 18446744073709551616 = 2 ^ 64 from rfl, Nat.add_comm, Nat.testBit_two_pow_mul_add _ ha]
  by_cases h1 : k < 64
  · rw [bt_lo h1, if_pos h1]
  · obtain ⟨m, rfl⟩ : ∃ m, k = 64 + m := ⟨k - 64, by omega⟩
    rw [bt_hi (by omega), if_neg h1, Nat.add_sub_cancel_left]

/- the document's: a byte bit by bit, the highest first -/
def upB (x i j : Nat) : Nat := x / 2 ^ (8 * i + j) % 2 ^ (8 - j)
theorem upB_top (x i : Nat) : upB x i 8 = 0 := by rw [upB]; exact Nat.mod_one _
theorem upB_all (a b i : Nat) : upB (big a b) i 0 = byP a b i := rfl
theorem upB_lt (x i j : Nat) (h : 1 ≤ j) : upB x i j < 128 := by
  have h1 := Nat.mod_lt (x / 2 ^ (8 * i + j)) (Nat.two_pow_pos (8 - j))
  have h2 : 2 ^ (8 - j) ≤ 2 ^ 7 := Nat.pow_le_pow_right (by omega) (by omega)
  rw [upB]
  omega
theorem upB_step (x i j : Nat) (h : j < 8) : upB x i j = 2 * upB x i (j + 1) + (if x.testBit (8 * i + j) then 1 else 0) := by
  rw [upB, upB, show 8 - j = (8 - (j + 1)) + 1 by omega, Nat.pow_succ, Nat.mul_comm _ 2, Nat.mod_mul, show 8 * i + (j + 1) = (8 * i + j) + 1 by omega, Nat.pow_succ, ← Nat.div_div_eq_div_mul, Nat.testBit_eq_decide_div_mod_eq]
  generalize x / 2 ^ (8 * i + j) = q
  generalize q / 2 % 2 ^ (8 - (j + 1)) = z
  have : q % 2 = 0 ∨ q % 2 = 1 := by omega
  rcases this with h | h <;> simp [h] <;> omega

theorem shr_byte (a k : Nat) : IntKind.u8.wrap ((a : Int) / 2 ^ k) = ((a / 2 ^ k % 256 : Nat) : Int) := by
  have e : (a : Int) / 2 ^ k = ((a / 2 ^ k : Nat) : Int) := by rw [Int.natCast_ediv, Int.natCast_pow]; rfl
  rw [e, IntKind.wrap_u8]
  omega

theorem hiA : (Tryd.prog.info? 109).map (·.size) = some 16 := by kernel_rfl
set_option maxHeartbeats 1000000 in
theorem bytes16_any (a b : Nat) (w : World) (ha : a < 18446744073709551616) :
    Calls Tryd.prog 31 #[rw2 a b] w fun e w' => e = .returned (.string (txt (bysP a b 16))) ∧ Below w.heap.size w w' := by
  have HLo : Shy (∀ i, i < 8 → a / 2 ^ (8 * i) % 256 = byP a b i) := ⟨fun i hi => by_lo ha hi⟩
  have HHi : Shy (∀ i, b / 2 ^ (8 * i) % 256 = byP a b (8 + i)) := ⟨fun i => by_hi ha i⟩
  have HSu : Shy (∀ k, k < 16 → (bysP a b k ++ zeros (16 - k)).set k (byP a b k) = bysP a b (k + 1) ++ zeros (16 - (k + 1))) := ⟨fun k hk => by
    rw [List.set_append_right _ _ (by simp [bysP_length]), bysP_length, Nat.sub_self, show 16 - k = (16 - (k + 1)) + 1 by omega, zeros, List.replicate_succ, List.set_cons_zero, bysP, List.append_assoc]
    rfl⟩
  have HL : Shy (∀ k, k ≤ 16 → (bysP a b k ++ zeros (16 - k)).length = 16) := ⟨fun k hk => by rw [List.length_append, bysP_length, zeros_length]; omega⟩
  have HZ : Shy (bysP a b 16 ++ zeros (16 - 16) = bysP a b 16 ∧ (bysP a b 16).length = 16) := ⟨⟨by simp [zeros], bysP_length _ _ _⟩⟩
  have H0 : Shy (bysP a b 0 ++ zeros (16 - 0) = zeros 16) := ⟨rfl⟩
  obtain ⟨tx, HTX⟩ : ∃ tx, Shy (txt (bysP a b 16) = tx) := ⟨_, ⟨rfl⟩⟩
  rw [HTX.out]
  clear ha
  unfold rw2
  go_enter Tryd.func31, Tryd.ntmps31
  go_upto_region 2 with (fail)
  generalize hX : World.alloc (World.alloc w _) _ = X
  have x0 : X.heap[w.heap.size]? = some (row2 a b) := by rw [← hX]; exact heap_alloc2_old _ _ _
  have x1 : X.heap[w.heap.size + 1]? = some (row8 109 (zeros 16)) := by rw [← hX]; exact heap_alloc2_new _ _ _
  have xb : Below w.heap.size w X := by rw [← hX]; exact ((Below.refl _ _).alloc (Nat.le_refl _) _).alloc (by simp) _
  have X0 := hide1 x0
  have X1 := hide1 x1
  have XB := hide1 xb
  clear hX x0 x1 xb
  go_wp2
  go_loopw [5] (fun v wr => ∃ k : Nat, k ≤ 16 ∧ v = .int .i64 k ∧ wr.heap[w.heap.size]? = some (row2 a b) ∧ wr.heap[w.heap.size + 1]? = some (row8 109 (bysP a b k ++ zeros (16 - k))) ∧ Below w.heap.size w wr) (fun v _ => 16 - (intOf v).toNat)
  case atStart => exact ⟨0, Nat.zero_le _, rfl, X0.out, by rw [H0.out]; exact X1.out, XB.out⟩
  case round =>
    obtain ⟨k, hk, rfl, hr0, hr1, hbe⟩ := hrel
    by_cases hlt : k < 16
    · have hS := HSu.out k hlt
      have hl := HL.out k hk
      generalize bysP a b k ++ zeros (16 - k) = cur at *
      have c0 : wr.cell? ⟨w.heap.size, 0, none⟩ = some (.int .u64 (a : Int)) := by rw [cell_of_row wr _ 0 _ _ _ hr0]; rfl
      have c1 : wr.cell? ⟨w.heap.size, 1, none⟩ = some (.int .u64 (b : Int)) := by rw [cell_of_row wr _ 1 _ _ _ hr0]; rfl
      have cu := cell8 hr1 (j := k) (by omega)
      have fu := frozen_of_row wr (w.heap.size + 1) k _ _ hr1
      have HS : Shy (cur.set k (byP a b k) = bysP a b (k + 1) ++ zeros (16 - (k + 1))) := ⟨hS⟩
      have R0 := hide1 hr0
      have R1 := hide1 hr1
      have HE := hide1 hbe
      clear hS hl hr0 hr1 hbe
      generalize at0 cur k = old at *
      obtain ⟨q, hq⟩ : ∃ q, q = 8 * (k % 8) := ⟨_, rfl⟩
      have e2 : 8 * ((k : Int) % 8) = (q : Int) := by omega
      have hv : IntKind.u8.wrap ((((if k < 8 then a else b) : Nat) : Int) / 2 ^ q) = ((byP a b k : Nat) : Int) := by
        rw [shr_byte]
        by_cases h8 : k < 8
        · rw [if_pos h8, hq, show k % 8 = k by omega, HLo.out k h8]
        · rw [if_neg h8, hq, HHi.out, show 8 + k % 8 = k by omega]
      generalize byP a b k = v at *
      have bq : (q : Int) < 64 := by omega
      have bk : (k : Int) < 16 := by omega
      by_cases h8 : k < 8
      · rw [if_pos h8] at hv
        have e1 : (k : Int) / 8 = 0 := by omega
        clear hq c1
        go_wp2
        go_roundw
        case rel =>
          refine ⟨k + 1, by omega, by go_num, ?_, ?_, ?_⟩
          · exact (heap_setCell_other _ _ _ _ (by simp)).trans R0.out
          · rw [← HS.out]; exact set8 R1.out
          · exact HE.out.setCell (by simp) _
        case measure => simp [intOf]; omega
      · rw [if_neg h8] at hv
        have e1 : (k : Int) / 8 = 1 := by omega
        clear hq c0
        go_wp2
        go_roundw
        case rel =>
          refine ⟨k + 1, by omega, by go_num, ?_, ?_, ?_⟩
          · exact (heap_setCell_other _ _ _ _ (by simp)).trans R0.out
          · rw [← HS.out]; exact set8 R1.out
          · exact HE.out.setCell (by simp) _
        case measure => simp [intOf]; omega
    · obtain rfl : k = 16 := by omega
      rw [HZ.out.1] at hr1
      have hcv := conv_row (cap := 16) hr1
      rw [HZ.out.2] at hcv
      have HE := hide1 hbe
      clear hr0 hr1 hbe
      rw [HTX.out] at hcv
      go_wp2
      go_ret
      exact ⟨rfl, HE.out⟩

theorem u8s_append (l m : List Nat) : u8s (l ++ m) = u8s l ++ u8s m := by simp [u8s]

set_option maxHeartbeats 2000000 in
theorem rbytes16_any (a b : Nat) (w : World) (ha : a < 18446744073709551616) :
    Calls Tryd.prog 33 #[rw2 a b] w fun e w' => e = .returned (.string (txt (bysP a b 16))) ∧ Below w.heap.size w w' := by
  obtain ⟨i0, hi, hz0, hz1, hz2⟩ := info_of info5
  have kb : Hid (∀ (i : Int) (w : World), Calls Tryd.prog 54 #[.agg #[.int .u64 (a : Int), .int .u64 (b : Int)], .int .i64 i] w fun e w' => e = .returned (.bool (bt a b i)) ∧ Below w.heap.size w w') := fun i w => rbit_any a b i w
  have HB : Shy (∀ i j : Nat, i < 16 → j < 8 → bt a b ((8 * i + j : Nat) : Int) = (big a b).testBit (8 * i + j)) := ⟨fun i j hi hj => big_bit ha (by omega)⟩
  have HU : Shy (∀ i j : Nat, j < 8 → upB (big a b) i j = 2 * upB (big a b) i (j + 1) + (if (big a b).testBit (8 * i + j) then 1 else 0)) := ⟨fun i j h => upB_step _ i j h⟩
  have HT : Shy (∀ i, upB (big a b) i 8 = 0) := ⟨fun i => upB_top _ i⟩
  have HA : Shy (∀ i, upB (big a b) i 0 = byP a b i) := ⟨fun i => upB_all a b i⟩
  have HL : Shy (∀ i j, 1 ≤ j → upB (big a b) i j < 128) := ⟨fun i j h => upB_lt _ i j h⟩
  have HP : Shy (∀ k, bysP a b (k + 1) = bysP a b k ++ [byP a b k]) := ⟨fun k => rfl⟩
  have HN : Shy (∀ k, (bysP a b k).length = k) := ⟨bysP_length a b⟩
  have H0 : Shy (bysP a b 0 = []) := ⟨rfl⟩
  obtain ⟨tx, HTX⟩ : ∃ tx, Shy (txt (bysP a b 16) = tx) := ⟨_, ⟨rfl⟩⟩
  rw [HTX.out]
  have hi26 := hi26 a b
  generalize big a b = x at *
  clear ha
  unfold rw2
  go_enter Tryd.func33, Tryd.ntmps33
  go_upto_region 2 with (fail)
  generalize hX : World.alloc w _ = X
  have x0 : X.heap[w.heap.size]? = some (row2 a b) := by rw [← hX]; exact heap_alloc_new _ _
  have xb : Below w.heap.size w X := by rw [← hX]; exact (Below.refl _ _).alloc (Nat.le_refl _) _
  have X0 := hide1 x0
  have XB := hide1 xb
  clear hX xb x0
  go_wp2
  go_loopw [3, 4] (fun v3 v4 wr => ∃ k : Nat, k ≤ 16 ∧ v4 = .int .i64 k ∧ (∃ a c, v3 = .slice a k c ∧ (0 < k → ∃ g, a = some ⟨g, 0, none⟩)) ∧ wr.ownsRow (w.heap.size + 1) 5 1 v3 k (u8s (bysP a b k)) ∧ wr.heap[w.heap.size]? = some (row2 a b) ∧ w.heap.size + 1 ≤ wr.heap.size ∧ Below w.heap.size w wr) (fun _ v4 _ => 16 - (intOf v4).toNat)
  case atStart => exact ⟨0, Nat.zero_le _, rfl, ⟨none, 0, rfl, fun h => absurd h (Nat.lt_irrefl _)⟩, by rw [H0.out]; exact World.ownsRow_nil _ _ _ _, X0.out, lt_heap X0.out, XB.out⟩
  case round =>
    obtain ⟨k, hk, rfl, ⟨a3, c3, rfl, ha3⟩, hro, hr0, hsz, hbe⟩ := hrel
    by_cases hlt : k < 16
    · have bk : (k : Int) < 16 := by omega
      have hB := HB.out k
      have hU := HU.out k
      have hT := HT.out k
      have hA := HA.out k
      have hL := HL.out k
      have hP := HP.out k
      obtain ⟨F, hF⟩ : ∃ F : Nat → Nat, F = upB x k := ⟨_, rfl⟩
      rw [← hF] at hU hT hA hL
      have HF : Shy (F 8 = 0 ∧ F 0 = byP a b k ∧ ∀ j, 1 ≤ j → F j < 128) := ⟨⟨hT, hA, hL⟩⟩
      have HJ : Shy (∀ j, j < 8 → F j = 2 * F (j + 1) + (if bt a b ((8 * k + j : Nat) : Int) then 1 else 0)) := ⟨fun j hj => by rw [hU j hj, hB j hlt hj]⟩
      have HP1 : Shy (bysP a b (k + 1) = bysP a b k ++ [byP a b k]) := ⟨hP⟩
      generalize byP a b k = v at *
      have HRO := hide1 hro
      have R0 := hide1 hr0
      have HSz := hide1 hsz
      have HE := hide1 hbe
      clear hU hB hT hA hL hP hro hr0 hsz hbe hF HB HU HT HA HL HP ha3
      obtain ⟨Z, hZ⟩ : ∃ Z, Z = wr := ⟨_, rfl⟩
      subst hZ
      go_wp2
      go_loopw [5, 6] (fun v5 v6 wr => ∃ j : Nat, j ≤ 8 ∧ v6 = .int .i64 ((j : Int) - 1) ∧ v5 = .int .u8 (F j : Nat) ∧ Below Z.heap.size Z wr) (fun _ v6 _ => (intOf v6 + 1).toNat)
      case atStart => exact ⟨8, Nat.le_refl _, rfl, by rw [HF.out.1]; rfl, Below.refl _ _⟩
      case round =>
        obtain ⟨j, hj, rfl, rfl, hbz⟩ := hrel
        by_cases hj0 : 0 < j
        · obtain ⟨q, rfl⟩ : ∃ q, j = q + 1 := ⟨j - 1, by omega⟩
          rw [show ((q + 1 : Nat) : Int) - 1 = (q : Int) by omega]
          obtain ⟨p, hp⟩ : ∃ p, p = 8 * k + q := ⟨_, rfl⟩
          have hJ := HJ.out q (by omega)
          rw [← hp] at hJ
          have e1 : 8 * (k : Int) + (q : Int) = (p : Int) := by omega
          have b1 : (p : Int) < 128 := by omega
          have b2 : F (q + 1) < 128 := HF.out.2.2 _ (by omega)
          have bq : (0 : Int) ≤ (q : Int) := by omega
          have hr : wr.heap[w.heap.size]? = some (row2 a b) := (hbz.block _ (lt_heap R0.out)).trans R0.out
          have HR := hide1 hr
          have HBZ := hide1 hbz
          have HJ1 : Shy (F q = 2 * F (q + 1) + (if bt a b (p : Int) then 1 else 0)) := ⟨hJ⟩
          have HQ : Shy (q + 1 ≤ 8) := ⟨hj⟩
          have kp := fun w => hide1 (kb.out (p : Int) w)
          generalize F (q + 1) = f at *
          generalize bt a b (p : Int) = bb at *
          clear hJ hr hbz hp hj
          have f2 : IntKind.u8.wrap (2 * (f : Int)) = ((2 * f : Nat) : Int) := by rw [IntKind.wrap_u8]; omega
          obtain ⟨f', hf'⟩ : ∃ f', f' = 2 * f := ⟨_, rfl⟩
          rw [← hf'] at f2 HJ1
          have b3 : (f' : Int) < 256 := by omega
          have b4 : Shy (f' < 256 ∧ f' % 2 = 0) := ⟨⟨by omega, by omega⟩⟩
          clear hf'
          go_wp2_with (first | (refine wpList_load_row rfl 24 (.tmp 1) rfl w.heap.size rfl 24 #[.int .u64 (a : Int), .int .u64 (b : Int)] (0, 0) _ HR.out Tryd.underlying24 rfl hi26 ?_) | fail)
          go_at_call 54
          refine (kp _).out.mono ?_
          rintro e w1 ⟨rfl, hb1⟩
          have HB1 := hide1 (HBZ.out.trans (hb1.mono HBZ.out.size))
          clear hb1
          cases bb
          · go_wp2
            go_roundw
            case rel => exact ⟨q, by have := HQ.out; omega, by go_num, by rw [HJ1.out]; rfl, HB1.out⟩
            case measure => simp [intOf]
          · have f3 : IntKind.u8.wrap ((f' : Int) + 1) = ((f' + 1 : Nat) : Int) := by have := b4.out; rw [IntKind.wrap_u8]; omega
            go_wp2
            go_roundw
            case rel => exact ⟨q, by have := HQ.out; omega, by go_num, by rw [HJ1.out]; rfl, HB1.out⟩
            case measure => simp [intOf]
        · obtain rfl : j = 0 := by omega
          rw [show ((0 : Nat) : Int) - 1 = -1 from rfl, HF.out.2.1]
          have hro := own_below HRO.out hbz
          have hr : wr.heap[w.heap.size]? = some (row2 a b) := (hbz.block _ (lt_heap R0.out)).trans R0.out
          have hE : Below w.heap.size w wr := HE.out.trans (hbz.mono HE.out.size)
          have HRO := hide1 hro
          have HR := hide1 hr
          have HE := hide1 hE
          have HSz : Hid (w.heap.size + 1 ≤ wr.heap.size) := lt_heap hr
          clear hro hr hE hbz
          go_wp2_with (first
            | (at_builtin; go_must (refine wpList_append_lies _ rfl (.tmp 25) (.tmp 27) 80 rfl (w.heap.size + 1) 5 i0 (.int .u8 0) 1 1 Tryd.underlying80 hi hz0 hz1 hz2 rfl (by decide) (.slice a3 k c3) k (u8s (bysP a b k)) rfl (HRO.out.alloc _) ⟨wr.heap.size, 0, none⟩ 1 1 (u8s [v]) rfl rfl (World.news_of_block (heap_alloc_new wr (row8 5 [v]))) (u8s_one _) (by omega) (by unfold maxLen; omega) (by omega) (by have := HSz.out; rw [size_alloc]; omega) _ rfl ?_; intro g8 cap8 w8 ro8 gr8 wh8 lt8))
            | fail)
          rw [← u8s_append, ← HP1.out] at ro8
          have hb8 : Below (w.heap.size + 1) (wr.alloc (row8 5 [v])) w8 := (Below.refl _ _).grown gr8 (by rw [size_alloc]; have := HSz.out; omega) (fun k hk => (HRO.out.lt k hk).1)
          have hr8 : w8.heap[w.heap.size]? = some (row2 a b) := (hb8.block _ (by omega)).trans ((heap_alloc_old _ _ (lt_heap HR.out)).trans HR.out)
          have hE8 : Below w.heap.size w w8 := (HE.out.alloc HE.out.size _).trans (hb8.mono (by omega))
          have RO8 := hide1 ro8
          have HB8 := hide1 hE8
          have HR8 := hide1 hr8
          clear ro8 hb8 gr8 wh8 lt8 hr8 hE8
          go_wp2
          go_roundw
          case rel => exact ⟨k + 1, by omega, by go_num, ⟨_, _, rfl, fun _ => ⟨_, rfl⟩⟩, RO8.out, HR8.out, lt_heap HR8.out, HB8.out⟩
          case measure => simp [intOf]; omega
    · obtain rfl : k = 16 := by omega
      obtain ⟨g, rfl⟩ := ha3 (by omega)
      have hcv := conv_own (HN.out 16) hro
      rw [HTX.out] at hcv
      have HE := hide1 hbe
      clear hro hr0 hbe hsz
      go_wp2
      go_ret
      exact ⟨rfl, HE.out⟩
end Go.Proofs.YtlkkninnfiaedaaDoor

namespace Go.Proofs.YtlkkninnfiaedaaDoor
open Go.RowKit Pg
set_option maxRecDepth 100000
attribute [local go_sem] not_any

theorem mixed : Tryd.prog.follows .mixedOrders = true := by kernel_rfl
/- two may come up -/
theorem ready2_f {P : Program} {ops : Array Oper} {Q : Exit → Act → World → Prop} {md : Region.Mode} {S : World → Prop} {F : List Nat} (i j : Nat) {o o' : Oper} {fuel : Nat} {listed : Array Bool} {a : Act} {w : World} (hr : Region.ready md ops listed = [i, j]) (ho : ops[i]? = some o) (ho' : ops[j]? = some o')
    (h : ∀ K : Act → World → Prop, Shut (∀ a' w', (i ∉ F → S w → S w') → wpAnyF P md ops Q S F fuel (listed.setIfInBounds i true) a' w' → K a' w') → if Region.wanted o (yielded ops a.tmps) = true then Oper.wp P o a w K Q else K (a.put o.dst undef) w)
    (h' : ∀ K : Act → World → Prop, Shut (∀ a' w', (j ∉ F → S w → S w') → wpAnyF P md ops Q S F fuel (listed.setIfInBounds j true) a' w' → K a' w') → if Region.wanted o' (yielded ops a.tmps) = true then Oper.wp P o' a w K Q else K (a.put o'.dst undef) w) :
    wpAnyF P md ops Q S F (fuel + 1) listed a w := by
  refine ⟨fun h0 => (by rw [hr] at h0; cases h0), ?_⟩
  intro k hk
  rw [hr] at hk
  rcases List.mem_cons.1 hk with e | hk
  · rw [e]
    exact wpOp_step ho (fun K hK => h K (fun a w hS hW => hK a w ⟨hS, hW⟩))
  · have e : k = j := by simpa using hk
    rw [e]
    exact wpOp_step ho' (fun K hK => h' K (fun a w hS hW => hK a w ⟨hS, hW⟩))

theorem skip_p {P : Program} {ops : Array Oper} {Q : Exit → Act → World → Prop} {md : Region.Mode} {S : World → Prop} {F : List Nat} (i d : Nat) {oi : Oper} {fuel : Nat} {listed : Array Bool} {tmps : Array Value} {ds : List Deferred} {w : World} (hi : ops[i]? = some oi) (hd : oi.dst = some d)
    (hs : Region.noSelect ops = true) (hf : Region.free md ops listed i = true) (hr : (Region.ready md ops listed).contains i = true)
    (hQ : ∀ c a w, Q (.panic c) (a.put oi.dst undef) w → Q (.panic c) a w) (hw : Region.wanted oi (yielded ops tmps) = false)
    (h : wpAnyF P md ops Q S F fuel (listed.setIfInBounds i true) ⟨tmps.setIfInBounds d undef, ds⟩ w) : wpAnyF P md ops Q S F (fuel + 1) listed ⟨tmps, ds⟩ w :=
  front (R := fun _ => True) (J := Clear md ops i oi) hi (Region.noSelect_spec hs) hQ
    (fun L j hL hri hrj hne => ⟨(hL.next hri hrj hne).1, (hL.next hri hrj hne).2, fun _ _ _ _ => trivial⟩)
    fuel listed _ w (Region.free_spec hi hf) (by simpa using hr) (Or.inr ⟨hw, rfl⟩) trivial (by rw [hd]; exact h)

/- nothing was held: from here on something is -/
theorem hold_f {P : Program} {ops : Array Oper} {Q : Exit → Act → World → Prop} {md : Region.Mode} {S : World → Prop} {F G : List Nat} : ∀ (fuel : Nat) (listed : Array Bool) (a : Act) (w : World), wpAnyF P md ops Q S F fuel listed a w → wpAnyF P md ops Q (fun _ => True) G fuel listed a w
  | 0, _, _, _, h => h
  | fuel + 1, _, _, _, h => ⟨h.1, fun i hi => wpOp_mono (fun a' w' h' => ⟨fun _ _ => trivial, hold_f fuel _ a' w' h'.2⟩) (h.2 i hi)⟩

/- a world in which all that was there in W is as it was -/
structure Bw (W : World) where
  w : World
  h : Below W.heap.size W w
theorem wp_region_quiet_bw {P : Program} {id : Nat} {Q : Exit → Act → World → Prop} {a : Act} {w : World} {l : List Oper} (hm : P.follows .mixedOrders = true) (hB : Region.lexB .any l.toArray = true)
    (h : wpQuiet P l.toArray (fun w' => ∃ p : Bw w, w' = p.w) (fun a' => ∀ w', (∃ p : Bw w, w' = p.w) → Q .normal a' w') l a) : (Code.region id l.toArray true).wp P Q a w :=
  wp_region_quiet (C := fun w' => ∃ p : Bw w, w' = p.w) hm hB ⟨⟨w.drew, (Below.refl _ _).drew⟩, rfl⟩ (by simpa using h)
theorem bw_of {P : Program} {f : FuncId} {args : Array Value} {W : World} {p : Bw W} {v : Value}
    (h : Calls P f args p.w fun e w' => e = .returned v ∧ Below p.w.heap.size p.w w') : Calls P f args p.w fun e w'' => e = .returned v ∧ ∃ p : Bw W, w'' = p.w :=
  h.mono fun _ w'' ⟨he, hb⟩ => ⟨he, ⟨w'', p.h.trans (hb.mono p.h.size)⟩, rfl⟩
theorem bw_cell {W : World} {a : Addr} {v : Value} (h : W.cell? a = some v) (p : Bw W) : p.w.cell? a = some v := (p.h.cell (block_lt_of_cell h)).trans h

theorem ex_by : txt (bysP 258 0 16) = ⟨#[2, 1, 0, 0, 0, 0, 0, 0, 0, 0, 0, 0, 0, 0, 0, 0]⟩ := by decide +kernel
theorem ex_tz : txt (zeros 14) = ⟨#[0, 0, 0, 0, 0, 0, 0, 0, 0, 0, 0, 0, 0, 0]⟩ := by decide +kernel
end Go.Proofs.YtlkkninnfiaedaaDoor
