/- Bits of a stream: the program's. Pure: a square of 64 words of 64 bits, turned by quarters. -/
import Derived.Test.YtlkkninnfiaedaaDoorJ05
import Derived.Test.YtlkkninnfiaedaaDoorJ36
import Derived.Test.YtlkkninnfiaedaaDoorJ11
import Derived.Test.YtlkkninnfiaedaaDoorJ29
namespace Go.Proofs.YtlkkninnfiaedaaDoor.Pg
open Go.RowKit
set_option maxRecDepth 100000
attribute [local go_sem] not_any

/- the stream's bits -/
def sbit (kl : List Nat) (x i : Nat) : Bool := (sy kl x (i / 8)).testBit (i % 8)
def bts (kl : List Nat) (x F N : Nat) : List Bool := (List.range N).map (fun i => sbit kl x (F + i))
theorem bts_length (kl : List Nat) (x F N : Nat) : (bts kl x F N).length = N := by simp [bts]
theorem bts_succ (kl : List Nat) (x F N : Nat) : bts kl x F (N + 1) = bts kl x F N ++ [sbit kl x (F + N)] := by simp [bts, List.range_succ]

theorem bts_cut (kl : List Nat) (x F N B : Nat) (tp : ByteArray) (hB : F % 8 + N ≤ 8 * B) (ht : V.nums tp = byt kl x (F / 8) B) : V.cutOut (V.rbits (8 * B) tp) (F % 8) (F % 8 + N) = bts kl x F N := by
  refine V.bool_ext ?_ (fun j hj => ?_)
  · rw [V.cutOut_length (by rw [V.rbits_length]; exact hB), bts_length]; omega
  · rw [V.cutOut_length (by rw [V.rbits_length]; exact hB)] at hj
    have hjN : j < N := by omega
    rw [V.cutOut_getD (by omega), V.rbits_getD (by omega), ht, List.getD_eq_getElem?_getD, List.getD_eq_getElem?_getD]
    have e1 : (byt kl x (F / 8) B)[(F % 8 + j) / 8]?.getD 0 = sy kl x (F / 8 + (F % 8 + j) / 8) := by
      have := byt_at (kl := kl) (x := x) (F := F / 8) (N := B) (i := (F % 8 + j) / 8) (by omega)
      exact this
    rw [e1]
    simp only [bts, List.getElem?_map, List.getElem?_range hjN, Option.map_some, Option.getD_some, sbit]
    rw [show (F + j) / 8 = F / 8 + (F % 8 + j) / 8 by omega, show (F + j) % 8 = (F % 8 + j) % 8 by omega]

def tC (f n : Int) : Int := if f < 0 ∨ n < 0 ∨ 65536 < n ∨ 1073741824 < f then 2 else 0
def tL (kl : List Nat) (x : Nat) (f n : Int) : List Bool := if tC f n = 0 then bts kl x f.toNat n.toNat else []
theorem tC_no {f n : Int} (h : f < 0 ∨ n < 0 ∨ 65536 < n ∨ 1073741824 < f) : tC f n = 2 := if_pos h
theorem tC_yes {F N : Nat} (h : N ≤ 65536) (h2 : F ≤ 1073741824) : tC (F : Int) (N : Int) = 0 := if_neg (by omega)
theorem tL_yes {kl : List Nat} {x F N : Nat} (h : N ≤ 65536) (h2 : F ≤ 1073741824) : tL kl x (F : Int) (N : Int) = bts kl x F N := by
  rw [tL, if_pos (tC_yes h h2), Int.toNat_natCast, Int.toNat_natCast]
theorem tL_two {kl : List Nat} {x : Nat} {f n : Int} (h : tC f n = 2) : tL kl x f n = [] := by
  rw [tL, h, if_neg (by omega)]

/- bits as an answer -/
def TPost (w : World) (bl : List Bool) (code : Int) (e : Ending) (w' : World) : Prop :=
  ∃ a m, e = .returned (.tuple #[.agg #[.int .i64 ((m : Nat) : Int), .slice a (V.need m 64) (V.need m 64)], .int .i64 code]) ∧ V.Vc w.heap.size w' m a bl ∧ Below w.heap.size w w'

theorem nums_same (s : ByteArray) : V.nums s = nums s := rfl

set_option maxHeartbeats 4000000 in
theorem bits_yes (kl : List Nat) (x F N : Nat) (w : World) (hk : kl.length = 32) (bk : Lt 256 kl) (hx : x < 4294967296) (hN : N ≤ 65536) (hF : F ≤ 1073741824) :
    Calls Tryd.prog 63 #[arr8 kl, .int .u32 (x : Int), .int .i64 (F : Int), .int .i64 (N : Int)] w (TPost w (bts kl x F N) 0) := by
  obtain ⟨s, hs⟩ : ∃ v, v = F % 8 := ⟨_, rfl⟩
  obtain ⟨c, hc⟩ : ∃ v, v = F / 8 := ⟨_, rfl⟩
  obtain ⟨T, hT⟩ : ∃ v, v = s + N := ⟨_, rfl⟩
  obtain ⟨T8, hT8⟩ : ∃ v, v = T + 8 := ⟨_, rfl⟩
  obtain ⟨T7, hT7⟩ : ∃ v, v = T + 7 := ⟨_, rfl⟩
  obtain ⟨B, hB⟩ : ∃ v, v = T7 / 8 := ⟨_, rfl⟩
  obtain ⟨B8, hB8⟩ : ∃ v, v = 8 * B := ⟨_, rfl⟩
  have kb := fun w => hide1 (bytes_yes kl x c B w hk bk hx (by omega) (by omega))
  have HT : Shy (nums (txt (byt kl x c B)) = byt kl x c B) := ⟨nums_txt (byt_lt _ _ _ _)⟩
  have hts : (txt (byt kl x c B)).size = B := by rw [nums_size HT.out, byt_length]
  have HCut : Shy (V.cutOut (V.rbits B8 (txt (byt kl x c B))) s T = bts kl x F N) := ⟨by
    rw [hB8, hT, hs]
    exact bts_cut kl x F N B _ (by omega) (by rw [nums_same, HT.out, hc])⟩
  have kr := fun w => hide1 (V.read_any B8 w (txt (byt kl x c B)) (by omega) (by rw [hts, V.need8]; omega) (fun k y hy j hj hlt => by
    have h1 := (List.getElem?_eq_some_iff.1 hy).1
    rw [V.nums_length, hts] at h1
    omega))
  have HP : Hid (∀ (b : Nat) (w : World) (a : Option Addr), V.Vc b w B8 a (V.rbits B8 (txt (byt kl x c B))) → Calls Tryd.prog 88 #[.agg #[.int .i64 (B8 : Int), .slice a (V.need B8 64) (V.need B8 64)], .int .i64 (s : Int), .int .i64 (T : Int)] w fun e w' => ∃ a', e = .returned (.tuple #[.agg #[.int .i64 (N : Int), .slice a' (V.need N 64) (V.need N 64)], .int .i64 0]) ∧ V.Vc w.heap.size w' N a' (bts kl x F N) ∧ Below w.heap.size w w') := fun b w a hv => by
    have := V.part_all b w B8 a _ s T hv (by omega) (by omega) (by omega)
    rw [HCut.out, show T - s = N by omega] at this
    exact this
  have Hz : Hid ((u8s kl).toArray.size = 32) := by show _ = _; simp [u8s, hk]
  generalize txt (byt kl x c B) = tp at *
  generalize bts kl x F N = bl at *
  generalize V.rbits B8 tp = rb at *
  have h1 : decide ((F : Int) < 0) = false := by simp
  have h2 : decide ((N : Int) < 0) = false := by simp
  have h3 : decide ((65536 : Int) < (N : Int)) = false := by rw [decide_eq_false_iff_not]; omega
  have h4 : decide ((1073741824 : Int) < (F : Int)) = false := by rw [decide_eq_false_iff_not]; omega
  have es : (F : Int) % 8 = (s : Int) := by omega
  have ec : (F : Int) / 8 = (c : Int) := by omega
  have eT : (s : Int) + (N : Int) = (T : Int) := by omega
  have eT8 : (T : Int) + 8 = (T8 : Int) := by omega
  have eT7 : (T8 : Int) - 1 = (T7 : Int) := by omega
  have eB : (T7 : Int) / 8 = (B : Int) := by omega
  have eB8 : (B : Int) * 8 = (B8 : Int) := by omega
  have b1 : (c : Int) ≤ 134217728 := by omega
  have b2 : (T : Int) ≤ 65600 := by omega
  have b3 : (T8 : Int) ≤ 65700 := by omega
  have b4 : (T7 : Int) ≤ 65700 := by omega
  have b5 : (B : Int) ≤ 8200 := by omega
  have b6 : (B8 : Int) ≤ 65700 := by omega
  have b7 : (s : Int) < 8 := by omega
  clear hs hc hT hT8 hT7 hB hB8 hk bk hx hN hF HT HCut
  unfold arr8 at kb ⊢
  go_enter Tryd.func63, Tryd.ntmps63
  go_upto_region 4 with (fail)
  generalize hX : World.alloc (World.alloc w _) _ = X
  have x0 : X.heap[w.heap.size]? = some (row8 28 kl) := by rw [← hX]; exact heap_alloc2_old _ _ _
  have x1 : X.heap[w.heap.size + 1]? = some (.cells #[.int .i64 0, .slice none 0 0] 41 (0, 0)) := by rw [← hX]; exact heap_alloc2_new _ _ _
  have xb : Below w.heap.size w X := by rw [← hX]; exact ((Below.refl _ _).alloc (Nat.le_refl _) _).alloc (by simp) _
  have X0 := hide1 x0
  have X1 := hide1 x1
  have XB := hide1 xb
  clear hX x0 x1 xb
  go_wp2_with (first | (refine wpList_load_row rfl 28 (.tmp 4) rfl w.heap.size rfl 28 (u8s kl).toArray (0, 0) _ X0.out Tryd.underlying28 rfl (by rw [Hz.out]; kernel_rfl) ?_) | fail)
  go_at_call 55
  refine (kb _).out.mono ?_
  rintro e w1 ⟨rfl, hb1⟩
  have R1 := hide1 ((hb1.block _ (lt_heap X1.out)).trans X1.out)
  have B1 := hide1 (XB.out.trans (hb1.mono XB.out.size))
  clear hb1 kb X0 X1 XB
  go_wp2_with fail
  go_at_call 87
  refine (kr _).out.mono ?_
  rintro e w2 ⟨a, rfl, hv, hb2⟩
  have R2 := hide1 ((hb2.block _ (lt_heap R1.out)).trans R1.out)
  have B2 := hide1 (B1.out.trans (hb2.mono B1.out.size))
  have HV := hide1 hv
  clear hb2 kr R1 B1 hv
  go_wp2_with fail
  go_at_call 88
  generalize hY : World.alloc w2 _ = Y
  have y1 : Y.heap[w.heap.size + 1]? = some (.cells #[.int .i64 0, .slice none 0 0] 41 (0, 0)) := by rw [← hY]; exact (heap_alloc_old _ _ (lt_heap R2.out)).trans R2.out
  have yv := HV.out.alloc (.cells #[.int .i64 (B8 : Int), .slice a (V.need B8 64) (V.need B8 64)] 41)
  rw [hY] at yv
  have yb : Below w.heap.size w Y := by rw [← hY]; exact B2.out.alloc B2.out.size _
  have YL : Hid (w.heap.size + 1 < Y.heap.size) := lt_heap y1
  refine (HP.out _ Y a yv).mono ?_
  rintro e w3 ⟨a', rfl, hv3, hb3⟩
  have r3 := (hb3.block _ (lt_heap y1)).trans y1
  have B3 := hide1 (yb.trans (hb3.mono yb.size))
  have HV3 := hide1 hv3
  obtain ⟨c0, c1, f0, f1, l0⟩ := V.box2 r3
  have R3 := hide1 r3
  clear hY y1 yv yb hv3 hb3 r3 HP R2 B2 HV
  go_wp2
  refine V.ret_vec2 Tryd.results63 (w.heap.size + 1) _ _ _ rfl rfl (V.set_box2 R3.out) rfl ⟨a', N, rfl, ?_, ?_⟩
  · exact ((HV3.out.setCell YL.out _).setCell YL.out _).mono (by have := YL.out; omega)
  · exact (B3.out.setCell (by simp) _).setCell (by simp) _

theorem bits_no (kl : List Nat) (x : Int) (f n : Int) (w : World) (h : f < 0 ∨ n < 0 ∨ 65536 < n ∨ 1073741824 < f) :
    Calls Tryd.prog 63 #[arr8 kl, .int .u32 x, .int .i64 f, .int .i64 n] w fun e w' => TPost w [] 2 e w' := by
  unfold arr8
  by_cases h1 : f < 0
  · clear h
    go_enter Tryd.func63, Tryd.ntmps63
    go_wp2
    exact V.ret_vec2 Tryd.results63 (w.heap.size + 1) _ _ _ rfl rfl (heap_alloc2_new _ _ _) rfl ⟨none, 0, rfl, V.nil_at _ _, ((Below.refl _ _).alloc (Nat.le_refl _) _).alloc (by simp) _⟩
  · have h1' : decide (f < 0) = false := by rw [decide_eq_false_iff_not]; exact h1
    by_cases h2 : n < 0
    · clear h
      go_enter Tryd.func63, Tryd.ntmps63
      go_wp2
      exact V.ret_vec2 Tryd.results63 (w.heap.size + 1) _ _ _ rfl rfl (heap_alloc2_new _ _ _) rfl ⟨none, 0, rfl, V.nil_at _ _, ((Below.refl _ _).alloc (Nat.le_refl _) _).alloc (by simp) _⟩
    · have h2' : decide (n < 0) = false := by rw [decide_eq_false_iff_not]; exact h2
      by_cases h3 : 65536 < n
      · clear h
        go_enter Tryd.func63, Tryd.ntmps63
        go_wp2
        exact V.ret_vec2 Tryd.results63 (w.heap.size + 1) _ _ _ rfl rfl (heap_alloc2_new _ _ _) rfl ⟨none, 0, rfl, V.nil_at _ _, ((Below.refl _ _).alloc (Nat.le_refl _) _).alloc (by simp) _⟩
      · have h3' : decide (65536 < n) = false := by rw [decide_eq_false_iff_not]; exact h3
        have h4 : 1073741824 < f := by omega
        clear h
        go_enter Tryd.func63, Tryd.ntmps63
        go_wp2
        exact V.ret_vec2 Tryd.results63 (w.heap.size + 1) _ _ _ rfl rfl (heap_alloc2_new _ _ _) rfl ⟨none, 0, rfl, V.nil_at _ _, ((Below.refl _ _).alloc (Nat.le_refl _) _).alloc (by simp) _⟩

theorem bits_any (kl : List Nat) (x : Nat) (f n : Int) (w : World) (hk : kl.length = 32) (bk : Lt 256 kl) (hx : x < 4294967296) :
    Calls Tryd.prog 63 #[arr8 kl, .int .u32 (x : Int), .int .i64 f, .int .i64 n] w (TPost w (tL kl x f n) (tC f n)) := by
  by_cases h : f < 0 ∨ n < 0 ∨ 65536 < n ∨ 1073741824 < f
  · rw [tL_two (tC_no h), tC_no h]
    exact bits_no kl x f n w h
  · obtain ⟨F, rfl⟩ := Int.eq_ofNat_of_zero_le (show 0 ≤ f by omega)
    obtain ⟨N, rfl⟩ := Int.eq_ofNat_of_zero_le (show 0 ≤ n by omega)
    rw [tC_yes (by omega) (by omega), tL_yes (by omega) (by omega)]
    exact bits_yes kl x F N w hk bk hx (by omega) (by omega)
end Go.Proofs.YtlkkninnfiaedaaDoor.Pg

namespace Go.Proofs.YtlkkninnfiaedaaDoor.T
set_option maxRecDepth 100000

def unl (h low x y : Nat) : Nat := (x / 2 ^ h ^^^ y) &&& low
def lv (h low : Nat) (f : Nat → Nat) (i : Nat) : Nat :=
  if i &&& h = 0 then f i ^^^ (unl h low (f i) (f (i + h)) * 2 ^ h % 18446744073709551616) else f i ^^^ unl h low (f (i - h)) (f i)
def lvTo (h low : Nat) (f : Nat → Nat) (J i : Nat) : Nat := if (if i &&& h = 0 then i else i - h) < J then lv h low f i else f i

/- which numbers a step may have -/
def goodAt (h low b : Nat) : Bool := (low.testBit b == (b &&& h == 0)) && (if b &&& h == 0 then ((b + h) &&& h != 0) && decide (b + h < 64) && (!(decide (h ≤ b)) || ((b - h) &&& h != 0)) else decide (h ≤ b) && ((b - h) &&& h == 0))
def good (h low : Nat) : Bool := (List.range 64).all (goodAt h low) && decide (0 < h) && decide (h < 64) && decide (low < 18446744073709551616)
theorem good.at {h low b : Nat} (H : good h low = true) (hb : b < 64) : goodAt h low b = true := by
  simp only [good, Bool.and_eq_true, List.all_eq_true] at H
  exact H.1.1.1 b (List.mem_range.2 hb)
theorem good.low {h low b : Nat} (H : good h low = true) (hb : b < 64) : low.testBit b = decide (b &&& h = 0) := by
  have := good.at H hb
  simp only [goodAt, Bool.and_eq_true, beq_iff_eq] at this
  rw [this.1]
  rfl
theorem good.up {h low b : Nat} (H : good h low = true) (hb : b < 64) (h0 : b &&& h = 0) : (b + h) &&& h ≠ 0 ∧ b + h < 64 := by
  have := good.at H hb
  simp [goodAt, h0] at this
  exact this.2.1
theorem good.back {h low b : Nat} (H : good h low = true) (hb : b < 64) (h0 : b &&& h = 0) (h1 : h ≤ b) : (b - h) &&& h ≠ 0 := by
  have := good.at H hb
  simp [goodAt, h0] at this
  rcases this.2.2 with h2 | h2
  · omega
  · exact h2
theorem good.down {h low b : Nat} (H : good h low = true) (hb : b < 64) (h0 : ¬ b &&& h = 0) : h ≤ b ∧ (b - h) &&& h = 0 := by
  have := good.at H hb
  simp [goodAt, h0] at this
  exact this.2
theorem good.pos {h low : Nat} (H : good h low = true) : 0 < h ∧ h < 64 ∧ low < 18446744073709551616 := by
  simp only [good, Bool.and_eq_true, decide_eq_true_eq] at H
  exact ⟨H.1.1.2, H.1.2, H.2⟩

def sw (h : Nat) (p : Nat × Nat) : Nat × Nat := if p.1 &&& h = 0 then (if p.2 &&& h = 0 then p else (p.1 + h, p.2 - h)) else (if p.2 &&& h = 0 then (p.1 - h, p.2 + h) else p)

theorem lv_bit {h low : Nat} (H : good h low = true) (f : Nat → Nat) {i b : Nat} (_hi : i < 64) (hb : b < 64) : (lv h low f i).testBit b = (f (sw h (i, b)).1).testBit (sw h (i, b)).2 := by
  have p64 : (18446744073709551616 : Nat) = 2 ^ 64 := rfl
  by_cases h0 : i &&& h = 0
  · rw [lv, if_pos h0, Nat.testBit_xor, p64, Nat.testBit_mod_two_pow, decide_eq_true hb, Bool.true_and, Nat.testBit_mul_two_pow, unl, Nat.testBit_and, Nat.testBit_xor, Nat.testBit_div_two_pow]
    by_cases h1 : b &&& h = 0
    · rw [show sw h (i, b) = (i, b) by simp [sw, h0, h1]]
      by_cases h2 : h ≤ b
      · rw [good.low H (show b - h < 64 by omega), decide_eq_false (good.back H hb h1 h2)]
        simp
      · simp [h2]
    · have h2 := good.down H hb h1
      rw [show sw h (i, b) = (i + h, b - h) by simp [sw, h0, h1], good.low H (show b - h < 64 by omega), decide_eq_true h2.2, decide_eq_true (show b ≥ h from h2.1), show b - h + h = b by omega]
      simp
  · rw [lv, if_neg h0, Nat.testBit_xor, unl, Nat.testBit_and, Nat.testBit_xor, Nat.testBit_div_two_pow, good.low H hb]
    by_cases h1 : b &&& h = 0
    · rw [show sw h (i, b) = (i - h, b + h) by simp [sw, h0, h1], decide_eq_true h1]
      simp
      cases (f i).testBit b <;> simp
    · rw [show sw h (i, b) = (i, b) by simp [sw, h0, h1], decide_eq_false h1]
      simp

theorem sw_lt {h low : Nat} (H : good h low = true) {i b : Nat} (hi : i < 64) (hb : b < 64) : (sw h (i, b)).1 < 64 ∧ (sw h (i, b)).2 < 64 := by
  unfold sw
  by_cases h0 : i &&& h = 0
  · by_cases h1 : b &&& h = 0
    · simp [h0, h1]; omega
    · have := good.up H hi h0
      simp [h0, h1]; omega
  · by_cases h1 : b &&& h = 0
    · have := good.up H hb h1
      simp [h0, h1]; omega
    · simp [h0, h1]; omega

theorem lv_lt {h low : Nat} (H : good h low = true) {f : Nat → Nat} (hf : ∀ i, i < 64 → f i < 18446744073709551616) {i : Nat} (hi : i < 64) : lv h low f i < 18446744073709551616 := by
  have hl := (good.pos H).2.2
  have hu : ∀ x y, unl h low x y < 2 ^ 64 := fun x y => Nat.lt_of_le_of_lt Nat.and_le_right hl
  unfold lv
  split
  · exact Nat.xor_lt_two_pow (n := 64) (hf i hi) (Nat.mod_lt _ (by omega))
  · exact Nat.xor_lt_two_pow (n := 64) (hf i hi) (hu _ _)

theorem lvTo_zero (h low : Nat) (f : Nat → Nat) (i : Nat) : lvTo h low f 0 i = f i := by simp [lvTo]
theorem lvTo_all {h low : Nat} {f : Nat → Nat} {i : Nat} (hi : i < 64) : lvTo h low f 64 i = lv h low f i := by
  rw [lvTo, if_pos (by split <;> omega)]
theorem lvTo_lt {h low : Nat} (H : good h low = true) {f : Nat → Nat} (hf : ∀ i, i < 64 → f i < 18446744073709551616) {i : Nat} (hi : i < 64) (J : Nat) : lvTo h low f J i < 18446744073709551616 := by
  by_cases h1 : (if i &&& h = 0 then i else i - h) < J
  · rw [lvTo, if_pos h1]; exact lv_lt H hf hi
  · rw [lvTo, if_neg h1]; exact hf i hi
theorem lvTo_pass {h low : Nat} (H : good h low = true) (f : Nat → Nat) {J i : Nat} (hJ : ¬ J &&& h = 0) (hi : i < 64) : lvTo h low f (J + 1) i = lvTo h low f J i := by
  have hne : (if i &&& h = 0 then i else i - h) ≠ J := by
    split
    · rename_i h0; intro e; rw [e] at h0; exact hJ h0
    · rename_i h0; intro e; exact hJ (by rw [← e]; exact (good.down H hi h0).2)
  unfold lvTo
  generalize (if i &&& h = 0 then i else i - h) = k at *
  by_cases h1 : k < J
  · rw [if_pos h1, if_pos (by omega)]
  · rw [if_neg h1, if_neg (by omega)]

/- the square as a list -/
def sq (f : Nat → Nat) : List Nat := (List.range 64).map f
theorem sq_length (f : Nat → Nat) : (sq f).length = 64 := by simp [sq]
theorem sq_get {f : Nat → Nat} {i : Nat} (h : i < 64) : (sq f)[i]? = some (f i) := by simp [sq, h]
theorem sq_congr {f g : Nat → Nat} (h : ∀ i, i < 64 → f i = g i) : sq f = sq g := List.map_congr_left fun i hi => h i (List.mem_range.1 hi)
theorem sq_set {f : Nat → Nat} {i : Nat} (x : Nat) : (sq f).set i x = sq (fun j => if j = i then x else f j) := by
  refine List.ext_getElem? fun j => ?_
  by_cases hj : j < 64
  · rw [sq_get hj, List.getElem?_set, sq_length]
    by_cases h : i = j
    · subst h; simp [hj]
    · rw [if_neg h, if_neg (fun e => h e.symm), sq_get hj]
  · rw [List.getElem?_eq_none (by rw [List.length_set, sq_length]; omega), List.getElem?_eq_none (by rw [sq_length]; omega)]

theorem cross_step {h low : Nat} (H : good h low = true) (f : Nat → Nat) {J : Nat} (hJ : J &&& h = 0) (hJ64 : J < 64) :
    lvTo h low f J J = f J ∧ lvTo h low f J (J + h) = f (J + h) ∧
    sq (lvTo h low f (J + 1)) = ((sq (lvTo h low f J)).set J (f J ^^^ (unl h low (f J) (f (J + h)) * 2 ^ h % 18446744073709551616))).set (J + h) (f (J + h) ^^^ unl h low (f J) (f (J + h))) := by
  obtain ⟨u1, u2⟩ := good.up H hJ64 hJ
  have hp := (good.pos H).1
  refine ⟨by simp [lvTo, hJ], by simp [lvTo, u1], ?_⟩
  rw [sq_set, sq_set]
  refine sq_congr fun i hi => ?_
  by_cases e1 : i = J + h
  · rw [if_pos e1, e1, lvTo, if_neg u1, if_pos (by omega), lv, if_neg u1, Nat.add_sub_cancel]
  · rw [if_neg e1]
    by_cases e2 : i = J
    · rw [if_pos e2, e2, lvTo, if_pos hJ, if_pos (by omega), lv, if_pos hJ]
    · rw [if_neg e2]
      have hne : (if i &&& h = 0 then i else i - h) ≠ J := by
        split
        · exact e2
        · rename_i h0; have := good.down H hi h0; omega
      unfold lvTo
      generalize (if i &&& h = 0 then i else i - h) = k at *
      by_cases h1 : k < J
      · rw [if_pos h1, if_pos (by omega)]
      · rw [if_neg h1, if_neg (by omega)]

/- the steps, one behind the other -/
def hv : Nat → Nat
  | 0 => 32 | 1 => 16 | 2 => 8 | 3 => 4 | 4 => 2 | 5 => 1 | _ => 0
def lw : Nat → Nat
  | 0 => 18446744073709551615 | 1 => 4294967295 | 2 => 281470681808895 | 3 => 71777214294589695 | 4 => 1085102592571150095 | 5 => 3689348814741910323 | _ => 6148914691236517205
theorem good_at : ∀ r, r < 6 → good (hv r) (lw (r + 1)) = true := by decide +kernel
theorem lw_next : ∀ r, r < 6 → lw r ^^^ (lw r * 2 ^ hv r % 18446744073709551616) = lw (r + 1) := by decide +kernel
theorem hv_next : ∀ r, r < 6 → hv r / 2 = hv (r + 1) := by decide +kernel
theorem lw_lt : ∀ r, r < 7 → lw r < 18446744073709551616 := by decide +kernel
def stg (f : Nat → Nat) : Nat → Nat → Nat
  | 0 => f
  | r + 1 => lv (hv r) (lw (r + 1)) (stg f r)
theorem stg_lt {f : Nat → Nat} (hf : ∀ i, i < 64 → f i < 18446744073709551616) : ∀ (r : Nat), r ≤ 6 → ∀ i, i < 64 → stg f r i < 18446744073709551616
  | 0, _, i, hi => hf i hi
  | r + 1, hr, i, hi => lv_lt (good_at r (by omega)) (stg_lt hf r (by omega)) hi
def sws : Nat → Nat × Nat → Nat × Nat
  | 0, p => p
  | r + 1, p => sws r (sw (hv r) p)
theorem stg_bit {f : Nat → Nat} : ∀ (r : Nat), r ≤ 6 → ∀ i b, i < 64 → b < 64 → (stg f r i).testBit b = (f (sws r (i, b)).1).testBit (sws r (i, b)).2
  | 0, _, _, _, _, _ => rfl
  | r + 1, hr, i, b, hi, hb => by
    have hg := good_at r (by omega)
    have hs := sw_lt hg hi hb
    rw [stg, lv_bit hg _ hi hb, sws, stg_bit r (by omega) _ _ hs.1 hs.2]
theorem sws_all : ∀ i, i < 64 → ∀ b, b < 64 → sws 6 (i, b) = (b, i) := by decide +kernel
def turned (f : Nat → Nat) : Nat → Nat := stg f 6
theorem turned_bit {f : Nat → Nat} {i b : Nat} (hi : i < 64) (hb : b < 64) : (turned f i).testBit b = (f b).testBit i := by
  rw [turned, stg_bit 6 (Nat.le_refl _) i b hi hb, sws_all i hi b hb]
theorem turned_lt {f : Nat → Nat} (hf : ∀ i, i < 64 → f i < 18446744073709551616) {i : Nat} (hi : i < 64) : turned f i < 18446744073709551616 := stg_lt hf 6 (Nat.le_refl _) i hi
end Go.Proofs.YtlkkninnfiaedaaDoor.T
