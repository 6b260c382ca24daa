/- Bits of a stream: the program's. -/
import Derived.Test.YtdahnbojnleboaaJ08
import Derived.Test.YtdahnbojnleboaaJ22
import Derived.Test.YtdahnbojnleboaaJ16
namespace Go.Proofs.Ytdahnbojnleboaa.Pg
open Go.RowKit
set_option maxRecDepth 100000
attribute [local go_sem] not_any

/- the stream's bits -/
def sbit (kl : List Nat) (x i : Nat) : Bool := (sy kl x (i / 8)).testBit (i % 8)
def bts (kl : List Nat) (x F N : Nat) : List Bool := (List.range N).map (fun i => sbit kl x (F + i))
theorem bts_length (kl : List Nat) (x F N : Nat) : (bts kl x F N).length = N := by simp [bts]
theorem bts_succ (kl : List Nat) (x F N : Nat) : bts kl x F (N + 1) = bts kl x F N ++ [sbit kl x (F + N)] := by simp [bts, List.range_succ]

theorem bts_cut (kl : List Nat) (x F N B : Nat) (tp : ByteArray) (hB : F % 8 + N ≤ 8 * B) (ht : V.nums tp = byt kl x (F / 8) B) : V.cutOut (V.rbits (8 * B) tp) (F % 8) (F % 8 + N) = bts kl x F N := by
  refine V.bool_ext ?_ (fun j hj => ?_)
  · rw [V.cutOut_length (by rw [V.rbits_length]; exact hB), bts_length]; omega
  · rw [V.cutOut_length (by rw [V.rbits_length]; exact hB)] at hj
    have hjN : j < N := by omega
    rw [V.cutOut_getD (by omega), V.rbits_getD (by omega), ht, List.getD_eq_getElem?_getD, List.getD_eq_getElem?_getD]
    have e1 : (byt kl x (F / 8) B)[(F % 8 + j) / 8]?.getD 0 = sy kl x (F / 8 + (F % 8 + j) / 8) := by
      have := byt_at (kl := kl) (x := x) (F := F / 8) (N := B) (i := (F % 8 + j) / 8) (by omega)
      exact this
    rw [e1]
    simp only [bts, List.getElem?_map, List.getElem?_range hjN, Option.map_some, Option.getD_some, sbit]
    rw [show (F + j) / 8 = F / 8 + (F % 8 + j) / 8 by omega, show (F + j) % 8 = (F % 8 + j) % 8 by omega]

def tC (f n : Int) : Int := if f < 0 ∨ n < 0 ∨ 65536 < n ∨ 1073741824 < f then 2 else 0
def tL (kl : List Nat) (x : Nat) (f n : Int) : List Bool := if tC f n = 0 then bts kl x f.toNat n.toNat else []
theorem tC_no {f n : Int} (h : f < 0 ∨ n < 0 ∨ 65536 < n ∨ 1073741824 < f) : tC f n = 2 := if_pos h
theorem tC_yes {F N : Nat} (h : N ≤ 65536) (h2 : F ≤ 1073741824) : tC (F : Int) (N : Int) = 0 := if_neg (by omega)
theorem tL_yes {kl : List Nat} {x F N : Nat} (h : N ≤ 65536) (h2 : F ≤ 1073741824) : tL kl x (F : Int) (N : Int) = bts kl x F N := by
  rw [tL, if_pos (tC_yes h h2), Int.toNat_natCast, Int.toNat_natCast]
theorem tL_two {kl : List Nat} {x : Nat} {f n : Int} (h : tC f n = 2) : tL kl x f n = [] := by
  rw [tL, h, if_neg (by omega)]

/- bits as an answer -/
def TPost (w : World) (bl : List Bool) (code : Int) (e : Ending) (w' : World) : Prop :=
  ∃ a m, e = .returned (.tuple #[.agg #[.int .i64 ((m : Nat) : Int), .slice a (V.need m 64) (V.need m 64)], .int .i64 code]) ∧ V.Vc w.heap.size w' m a bl ∧ Below w.heap.size w w'

theorem nums_same (s : ByteArray) : V.nums s = nums s := rfl

set_option maxHeartbeats 4000000 in
theorem bits_yes (kl : List Nat) (x F N : Nat) (w : World) (hk : kl.length = 32) (bk : Lt 256 kl) (hx : x < 4294967296) (hN : N ≤ 65536) (hF : F ≤ 1073741824) :
    Calls Try.prog 43 #[arr8 kl, .int .u32 (x : Int), .int .i64 (F : Int), .int .i64 (N : Int)] w (TPost w (bts kl x F N) 0) := by
  obtain ⟨s, hs⟩ : ∃ v, v = F % 8 := ⟨_, rfl⟩
  obtain ⟨c, hc⟩ : ∃ v, v = F / 8 := ⟨_, rfl⟩
  obtain ⟨T, hT⟩ : ∃ v, v = s + N := ⟨_, rfl⟩
  obtain ⟨T8, hT8⟩ : ∃ v, v = T + 8 := ⟨_, rfl⟩
  obtain ⟨T7, hT7⟩ : ∃ v, v = T + 7 := ⟨_, rfl⟩
  obtain ⟨B, hB⟩ : ∃ v, v = T7 / 8 := ⟨_, rfl⟩
  obtain ⟨B8, hB8⟩ : ∃ v, v = 8 * B := ⟨_, rfl⟩
  have kb := fun w => hide1 (bytes_yes kl x c B w hk bk hx (by omega) (by omega))
  have HT : Shy (nums (txt (byt kl x c B)) = byt kl x c B) := ⟨nums_txt (byt_lt _ _ _ _)⟩
  have hts : (txt (byt kl x c B)).size = B := by rw [nums_size HT.out, byt_length]
  have HCut : Shy (V.cutOut (V.rbits B8 (txt (byt kl x c B))) s T = bts kl x F N) := ⟨by
    rw [hB8, hT, hs]
    exact bts_cut kl x F N B _ (by omega) (by rw [nums_same, HT.out, hc])⟩
  have kr := fun w => hide1 (V.read_any B8 w (txt (byt kl x c B)) (by omega) (by rw [hts, V.need8]; omega) (fun k y hy j hj hlt => by
    have h1 := (List.getElem?_eq_some_iff.1 hy).1
    rw [V.nums_length, hts] at h1
    omega))
  have HP : Hid (∀ (b : Nat) (w : World) (a : Option Addr), V.Vc b w B8 a (V.rbits B8 (txt (byt kl x c B))) → Calls Try.prog 61 #[.agg #[.int .i64 (B8 : Int), .slice a (V.need B8 64) (V.need B8 64)], .int .i64 (s : Int), .int .i64 (T : Int)] w fun e w' => ∃ a', e = .returned (.tuple #[.agg #[.int .i64 (N : Int), .slice a' (V.need N 64) (V.need N 64)], .int .i64 0]) ∧ V.Vc w.heap.size w' N a' (bts kl x F N) ∧ Below w.heap.size w w') := fun b w a hv => by
    have := V.part_all b w B8 a _ s T hv (by omega) (by omega) (by omega)
    rw [HCut.out, show T - s = N by omega] at this
    exact this
  have Hz : Hid ((u8s kl).toArray.size = 32) := by show _ = _; simp [u8s, hk]
  generalize txt (byt kl x c B) = tp at *
  generalize bts kl x F N = bl at *
  generalize V.rbits B8 tp = rb at *
  have h1 : decide ((F : Int) < 0) = false := by simp
  have h2 : decide ((N : Int) < 0) = false := by simp
  have h3 : decide ((65536 : Int) < (N : Int)) = false := by rw [decide_eq_false_iff_not]; omega
  have h4 : decide ((1073741824 : Int) < (F : Int)) = false := by rw [decide_eq_false_iff_not]; omega
  have es : (F : Int) % 8 = (s : Int) := by omega
  have ec : (F : Int) / 8 = (c : Int) := by omega
  have eT : (s : Int) + (N : Int) = (T : Int) := by omega
  have eT8 : (T : Int) + 8 = (T8 : Int) := by omega
  have eT7 : (T8 : Int) - 1 = (T7 : Int) := by omega
  have eB : (T7 : Int) / 8 = (B : Int) := by omega
  have eB8 : (B : Int) * 8 = (B8 : Int) := by omega
  have b1 : (c : Int) ≤ 134217728 := by omega
  have b2 : (T : Int) ≤ 65600 := by omega
  have b3 : (T8 : Int) ≤ 65700 := by omega
  have b4 : (T7 : Int) ≤ 65700 := by omega
  have b5 : (B : Int) ≤ 8200 := by omega
  have b6 : (B8 : Int) ≤ 65700 := by omega
  have b7 : (s : Int) < 8 := by omega
  clear hs hc hT hT8 hT7 hB hB8 hk bk hx hN hF HT HCut
  unfold arr8 at kb ⊢
  go_enter Try.func43, Try.ntmps43
  go_upto_region 4 with (fail)
  generalize hX : World.alloc (World.alloc w _) _ = X
  have x0 : X.heap[w.heap.size]? = some (row8 23 kl) := by rw [← hX]; exact heap_alloc2_old _ _ _
  have x1 : X.heap[w.heap.size + 1]? = some (.cells #[.int .i64 0, .slice none 0 0] 40 (0, 0)) := by rw [← hX]; exact heap_alloc2_new _ _ _
  have xb : Below w.heap.size w X := by rw [← hX]; exact ((Below.refl _ _).alloc (Nat.le_refl _) _).alloc (by simp) _
  have X0 := hide1 x0
  have X1 := hide1 x1
  have XB := hide1 xb
  clear hX x0 x1 xb
  go_wp2_with (first | (refine wpList_load_row rfl 23 (.tmp 4) rfl w.heap.size rfl 23 (u8s kl).toArray (0, 0) _ X0.out Try.underlying23 rfl (by rw [Hz.out]; kernel_rfl) ?_) | fail)
  go_at_call 59
  refine (kb _).out.mono ?_
  rintro e w1 ⟨rfl, hb1⟩
  have R1 := hide1 ((hb1.block _ (lt_heap X1.out)).trans X1.out)
  have B1 := hide1 (XB.out.trans (hb1.mono XB.out.size))
  clear hb1 kb X0 X1 XB
  go_wp2_with fail
  go_at_call 60
  refine (kr _).out.mono ?_
  rintro e w2 ⟨a, rfl, hv, hb2⟩
  have R2 := hide1 ((hb2.block _ (lt_heap R1.out)).trans R1.out)
  have B2 := hide1 (B1.out.trans (hb2.mono B1.out.size))
  have HV := hide1 hv
  clear hb2 kr R1 B1 hv
  go_wp2_with fail
  go_at_call 61
  generalize hY : World.alloc w2 _ = Y
  have y1 : Y.heap[w.heap.size + 1]? = some (.cells #[.int .i64 0, .slice none 0 0] 40 (0, 0)) := by rw [← hY]; exact (heap_alloc_old _ _ (lt_heap R2.out)).trans R2.out
  have yv := HV.out.alloc (.cells #[.int .i64 (B8 : Int), .slice a (V.need B8 64) (V.need B8 64)] 40)
  rw [hY] at yv
  have yb : Below w.heap.size w Y := by rw [← hY]; exact B2.out.alloc B2.out.size _
  have YL : Hid (w.heap.size + 1 < Y.heap.size) := lt_heap y1
  refine (HP.out _ Y a yv).mono ?_
  rintro e w3 ⟨a', rfl, hv3, hb3⟩
  have r3 := (hb3.block _ (lt_heap y1)).trans y1
  have B3 := hide1 (yb.trans (hb3.mono yb.size))
  have HV3 := hide1 hv3
  obtain ⟨c0, c1, f0, f1, l0⟩ := V.box2 r3
  have R3 := hide1 r3
  clear hY y1 yv yb hv3 hb3 r3 HP R2 B2 HV
  go_wp2
  refine V.ret_vec2 Try.results43 (w.heap.size + 1) _ _ _ rfl rfl (V.set_box2 R3.out) rfl ⟨a', N, rfl, ?_, ?_⟩
  · exact ((HV3.out.setCell YL.out _).setCell YL.out _).mono (by have := YL.out; omega)
  · exact (B3.out.setCell (by simp) _).setCell (by simp) _

theorem bits_no (kl : List Nat) (x : Int) (f n : Int) (w : World) (h : f < 0 ∨ n < 0 ∨ 65536 < n ∨ 1073741824 < f) :
    Calls Try.prog 43 #[arr8 kl, .int .u32 x, .int .i64 f, .int .i64 n] w fun e w' => TPost w [] 2 e w' := by
  unfold arr8
  by_cases h1 : f < 0
  · clear h
    go_enter Try.func43, Try.ntmps43
    go_wp2
    exact V.ret_vec2 Try.results43 (w.heap.size + 1) _ _ _ rfl rfl (heap_alloc2_new _ _ _) rfl ⟨none, 0, rfl, V.nil_at _ _, ((Below.refl _ _).alloc (Nat.le_refl _) _).alloc (by simp) _⟩
  · have h1' : decide (f < 0) = false := by rw [decide_eq_false_iff_not]; exact h1
    by_cases h2 : n < 0
    · clear h
      go_enter Try.func43, Try.ntmps43
      go_wp2
      exact V.ret_vec2 Try.results43 (w.heap.size + 1) _ _ _ rfl rfl (heap_alloc2_new _ _ _) rfl ⟨none, 0, rfl, V.nil_at _ _, ((Below.refl _ _).alloc (Nat.le_refl _) _).alloc (by simp) _⟩
    · have h2' : decide (n < 0) = false := by rw [decide_eq_false_iff_not]; exact h2
      by_cases h3 : 65536 < n
      · clear h
        go_enter Try.func43, Try.ntmps43
        go_wp2
        exact V.ret_vec2 Try.results43 (w.heap.size + 1) _ _ _ rfl rfl (heap_alloc2_new _ _ _) rfl ⟨none, 0, rfl, V.nil_at _ _, ((Below.refl _ _).alloc (Nat.le_refl _) _).alloc (by simp) _⟩
      · have h3' : decide (65536 < n) = false := by rw [decide_eq_false_iff_not]; exact h3
        have h4 : 1073741824 < f := by omega
        clear h
        go_enter Try.func43, Try.ntmps43
        go_wp2
        exact V.ret_vec2 Try.results43 (w.heap.size + 1) _ _ _ rfl rfl (heap_alloc2_new _ _ _) rfl ⟨none, 0, rfl, V.nil_at _ _, ((Below.refl _ _).alloc (Nat.le_refl _) _).alloc (by simp) _⟩

theorem bits_any (kl : List Nat) (x : Nat) (f n : Int) (w : World) (hk : kl.length = 32) (bk : Lt 256 kl) (hx : x < 4294967296) :
    Calls Try.prog 43 #[arr8 kl, .int .u32 (x : Int), .int .i64 f, .int .i64 n] w (TPost w (tL kl x f n) (tC f n)) := by
  by_cases h : f < 0 ∨ n < 0 ∨ 65536 < n ∨ 1073741824 < f
  · rw [tL_two (tC_no h), tC_no h]
    exact bits_no kl x f n w h
  · obtain ⟨F, rfl⟩ := Int.eq_ofNat_of_zero_le (show 0 ≤ f by omega)
    obtain ⟨N, rfl⟩ := Int.eq_ofNat_of_zero_le (show 0 ≤ n by omega)
    rw [tC_yes (by omega) (by omega), tL_yes (by omega) (by omega)]
    exact bits_yes kl x F N w hk bk hx (by omega) (by omega)
end Go.Proofs.Ytdahnbojnleboaa.Pg
