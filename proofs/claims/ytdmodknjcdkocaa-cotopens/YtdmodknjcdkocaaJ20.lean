/- Words of a stream: the document's. A row's bytes: the program's, and the document's. The chapter's example; BaseotRows. -/
import Derived.Test.YtdmodknjcdkocaaJ13
import Derived.Test.YtdmodknjcdkocaaJ19
import Derived.Test.YtdmodknjcdkocaaJ12
namespace Go.Proofs.Ytdmodknjcdkocaa.Pg
open Go.RowKit
set_option maxRecDepth 100000
attribute [local go_sem] not_any

theorem own_nl {w : World} {base n cap : Nat} {e : TypeId} {a : Option Addr} {l : List Nat} (hn : l.length = n) (h : w.ownsRow base e 1 (.slice a n cap) n (V.u64s l)) : V.Nl w n a l ∧ (∀ p, a = some p → base ≤ p.block) := by
  rcases h.2 with ⟨hv, _⟩ | ⟨g, cap', cur, hv, hb, _⟩
  · cases hv
    exact ⟨⟨hn, fun j x hj => by rw [List.getElem?_eq_none (by omega)] at hj; cases hj⟩, fun p hp => by cases hp⟩
  · cases hv
    refine ⟨⟨hn, fun j x hj => ⟨g, 0, rfl, ?_⟩⟩, fun p hp => by cases hp; exact hb⟩
    have := h.cells (g := g) rfl j (.int .u64 (x : Int)) (by simp [V.u64s, hj])
    rwa [Addr.add_lit] at this
theorem info47 : (Try.prog.info? 49).map (fun i => (i.zero, i.size, i.bytes)) = some (some (.int .u64 0), 1, 8) := by kernel_rfl
theorem wrd_succ (kl : List Nat) (x F k : Nat) : wrd kl x F (k + 1) = wrd kl x F k ++ [wd kl x (F + k)] := by simp [wrd, List.range_succ]

/- eight bytes from the highest one down -/
def hi8 (l : List Nat) (t : Nat) : Nat := num (l.drop (8 - t))
theorem hi8_zero {l : List Nat} (h : l.length = 8) : hi8 l 0 = 0 := by rw [hi8, List.drop_eq_nil_of_le (by omega), num]
theorem hi8_all (l : List Nat) : hi8 l 8 = num l := by rw [hi8, Nat.sub_self, List.drop_zero]
theorem hi8_succ {l : List Nat} {t : Nat} (h : l.length = 8) (ht : t < 8) : hi8 l (t + 1) = 256 * hi8 l t + at0 l (7 - t) := by
  rw [hi8, hi8, show 8 - (t + 1) = 7 - t by omega, List.drop_eq_getElem_cons (by omega), num, show 7 - t + 1 = 8 - t by omega, Nat.add_comm]
  congr 1
  simp [at0, List.getElem?_eq_getElem (show 7 - t < l.length by omega)]
theorem hi8_lt {l : List Nat} {t : Nat} (h : Lt 256 l) (hl : l.length = 8) (ht : t < 8) : hi8 l t < 72057594037927936 := by
  refine Nat.lt_of_lt_of_le (num_lt _ (h.drop _)) (Nat.pow_le_pow_right (n := 2) (by omega) (show 8 * (l.drop (8 - t)).length ≤ 56 from ?_))
  rw [List.length_drop]
  omega

set_option maxHeartbeats 4000000 in
theorem rwords_yes (kl : List Nat) (x F N : Nat) (w : World) (hk : kl.length = 32) (bk : Lt 256 kl) (hx : x < 4294967296) (hN : N ≤ 4096) (hF : F + N ≤ 134217728) :
    Calls Try.prog 41 #[arr8 kl, .int .u32 (x : Int), .int .i64 (F : Int), .int .i64 (N : Int)] w (WPost w (wrd kl x F N) 0) := by
  obtain ⟨i0, hi, hz0, hz1, hz2⟩ := info_of info47
  obtain ⟨F8, hF8⟩ : ∃ v, v = 8 * F := ⟨_, rfl⟩
  obtain ⟨N8, hN8⟩ : ∃ v, v = 8 * N := ⟨_, rfl⟩
  have kb := fun w => hide1 (rbytes_yes kl x F8 N8 w hk bk hx (by omega) (by omega))
  have HT : Shy (nums (txt (byt kl x F8 N8)) = byt kl x F8 N8) := ⟨nums_txt (byt_lt _ _ _ _)⟩
  have hts : (txt (byt kl x F8 N8)).size = N8 := by rw [nums_size HT.out, byt_length]
  have HAt : Shy (∀ i m, i < N → m < 8 → at0 (byt kl x F8 N8) (8 * i + m) = at0 (byt kl x (8 * (F + i)) 8) m) := ⟨fun i m hi hm => by
    rw [byt_at (by omega), byt_at hm]
    congr 1
    omega⟩
  have HWd : Shy (∀ i, hi8 (byt kl x (8 * (F + i)) 8) 8 = wd kl x (F + i)) := ⟨fun i => by rw [hi8_all, wd]⟩
  have HL8 : Shy (∀ i, (byt kl x (8 * (F + i)) 8).length = 8 ∧ Lt 256 (byt kl x (8 * (F + i)) 8)) := ⟨fun i => ⟨byt_length _ _ _ _, byt_lt _ _ _ _⟩⟩
  have HSuc : Shy (∀ k, wrd kl x F (k + 1) = wrd kl x F k ++ [wd kl x (F + k)]) := ⟨wrd_succ kl x F⟩
  have HLn : Shy (∀ k, (wrd kl x F k).length = k) := ⟨wrd_length kl x F⟩
  have HZ : Shy (wrd kl x F 0 = []) := ⟨rfl⟩
  have HWL : Shy (∀ i, wd kl x (F + i) < 18446744073709551616) := ⟨fun i => wd_lt _ _ _⟩
  have Hz : Hid ((u8s kl).toArray.size = 32) := by show _ = _; simp [u8s, hk]
  generalize txt (byt kl x F8 N8) = tp at *
  generalize byt kl x F8 N8 = lb at *
  have h1 : decide ((F : Int) < 0) = false := by simp
  have h2 : decide ((N : Int) < 0) = false := by simp
  have h3 : decide ((4096 : Int) < (N : Int)) = false := by rw [decide_eq_false_iff_not]; omega
  have h4 : decide ((134217728 : Int) < (F : Int)) = false := by rw [decide_eq_false_iff_not]; omega
  have e1 : 8 * (F : Int) = (F8 : Int) := by omega
  have e2 : 8 * (N : Int) = (N8 : Int) := by omega
  have b1 : (F8 : Int) ≤ 1073741824 := by omega
  have b2 : (N8 : Int) ≤ 32768 := by omega
  have HN8 : Shy (N8 = 8 * N ∧ N ≤ 4096) := ⟨⟨hN8, hN⟩⟩
  clear hF8 hN8 hk bk hx hN hF
  unfold arr8 at kb ⊢
  go_enter Try.func41, Try.ntmps41
  go_upto_region 3 with (fail)
  generalize hX : World.alloc w _ = X
  have x0 : X.heap[w.heap.size]? = some (row8 46 kl) := by rw [← hX]; exact heap_alloc_new _ _
  have xb : Below w.heap.size w X := by rw [← hX]; exact (Below.refl _ _).alloc (Nat.le_refl _) _
  have X0 := hide1 x0
  have XB := hide1 xb
  clear hX x0 xb
  go_wp2_with (first | (refine wpList_load_row rfl 46 (.tmp 4) rfl w.heap.size rfl 46 (u8s kl).toArray (0, 0) _ X0.out Try.underlying46 rfl (by rw [Hz.out]; kernel_rfl) ?_) | fail)
  go_at_call 51
  refine (kb _).out.mono ?_
  rintro e w1 ⟨rfl, hb1⟩
  have B1 := hide1 (XB.out.trans (hb1.mono XB.out.size))
  clear hb1 kb X0 XB
  go_wp2
  go_loopw [12, 13] (fun v12 v13 wr => ∃ k : Nat, k ≤ N ∧ v13 = .int .i64 k ∧ (∃ a c, v12 = .slice a k c) ∧ wr.ownsRow w.heap.size 49 1 v12 k (V.u64s (wrd kl x F k)) ∧ Below w.heap.size w wr) (fun _ v13 _ => N - (intOf v13).toNat)
  case atStart => exact ⟨0, Nat.zero_le _, rfl, ⟨none, 0, rfl⟩, by rw [HZ.out]; exact World.ownsRow_nil _ _ _ _, B1.out⟩
  case round =>
    obtain ⟨k, hk, rfl, ⟨a12, c12, rfl⟩, hro, hbe⟩ := hrel
    by_cases hlt : k < N
    · have hlti : (k : Int) < (N : Int) := by omega
      have hS := HSuc.out k
      have hA := HAt.out k
      obtain ⟨l8, lt8⟩ := HL8.out k
      have hW := HWd.out k
      have hvl := HWL.out k
      generalize byt kl x (8 * (F + k)) 8 = ch at *
      generalize wd kl x (F + k) = v at *
      obtain ⟨p, hp⟩ : ∃ p, p = 8 * k := ⟨_, rfl⟩
      have ep : 8 * (k : Int) = (p : Int) := by omega
      have bp : (p : Int) ≤ 32768 := by have := HN8.out; omega
      have HS : Shy (wrd kl x F (k + 1) = wrd kl x F k ++ [v]) := ⟨hS⟩
      have HA : Shy (∀ m, m < 8 → at0 lb (p + m) = at0 ch m) := ⟨fun m hm => by rw [hp]; exact hA m hlt hm⟩
      have HL : Shy (ch.length = 8 ∧ Lt 256 ch ∧ hi8 ch 8 = v ∧ p + 8 ≤ N8) := ⟨⟨l8, lt8, hW, by have := HN8.out; omega⟩⟩
      have HRO := hide1 hro
      have HE := hide1 hbe
      have HKN : Shy (k < N ∧ N ≤ 4096) := ⟨⟨hlt, HN8.out.2⟩⟩
      clear hS hA l8 lt8 hW hro hbe hp
      obtain ⟨Z, hZ⟩ : ∃ Z, Z = wr := ⟨_, rfl⟩
      subst hZ
      go_wp2
      go_loop [14, 15] (fun v14 v15 => ∃ t : Nat, t ≤ 8 ∧ v15 = .int .i64 (7 - (t : Int)) ∧ v14 = .int .u64 (hi8 ch t : Nat)) (fun _ v15 => (intOf v15 + 1).toNat)
      case atStart => exact ⟨0, Nat.zero_le _, rfl, by rw [hi8_zero HL.out.1]; rfl⟩
      case round =>
        obtain ⟨t, ht, rfl, rfl⟩ := hrel
        by_cases hlt8 : t < 8
        · obtain ⟨m, hm⟩ : ∃ m, m = 7 - t := ⟨_, rfl⟩
          have em : 7 - (t : Int) = (m : Int) := by omega
          rw [em]
          have HM : Shy (m = 7 - t) := ⟨hm⟩
          obtain ⟨q, hq⟩ : ∃ q, q = p + m := ⟨_, rfl⟩
          have eq1 : (p : Int) + (m : Int) = (q : Int) := by omega
          have bq : (q : Int) < (N8 : Int) := by have := HL.out.2.2.2; omega
          have hix := fun w => run_index tp q (by have := HL.out.2.2.2; omega) w
          rw [HT.out, hq, HA.out m (by omega), ← hq] at hix
          have HN : Shy (hi8 ch (t + 1) = 256 * hi8 ch t + at0 ch m) := ⟨by rw [hi8_succ HL.out.1 hlt8, hm]⟩
          have b3 := hi8_lt HL.out.2.1 HL.out.1 hlt8
          have b4 := HL.out.2.1.at (by omega) m
          generalize hi8 ch t = v1 at *
          generalize at0 ch m = u at *
          have bm : (0 : Int) ≤ (m : Int) := by omega
          clear hm em hq
          go_wp2
          go_round
          case rel => exact ⟨t + 1, by omega, by have := HM.out; congr 1; omega, by rw [HN.out]; congr 1⟩
          case measure => simp [intOf]
        · have : t = 8 := by omega
          subst this
          rw [show 7 - ((8 : Nat) : Int) = -1 from rfl, HL.out.2.2.1]
          have hkm : k ≤ 4096 := by have := HKN.out; omega
          go_wp2_with (first
            | (at_builtin; go_must (refine wpList_append_lies _ rfl (.tmp 62) (.tmp 64) 23 rfl w.heap.size 49 i0 (.int .u64 0) 1 8 Try.underlying23 hi hz0 hz1 hz2 rfl (by decide) (.slice a12 k c12) k (V.u64s (wrd kl x F k)) rfl (HRO.out.alloc _) ⟨Z.heap.size, 0, none⟩ 1 1 (V.u64s [v]) rfl rfl (World.news_of_block (heap_alloc_new Z (V.wrow [v]))) (V.u64s_one _) (by omega) (by unfold maxLen; omega) (by omega) (by have := HE.out.size; rw [size_alloc]; omega) _ rfl ?_; intro g8 cap8 w8 ro8 gr8 wh8 lt8))
            | fail)
          rw [show V.u64s (wrd kl x F k) ++ V.u64s [v] = V.u64s (wrd kl x F (k + 1)) by rw [HS.out]; simp [V.u64s]] at ro8
          have hb8 : Below w.heap.size w w8 := (HE.out.alloc HE.out.size _).grown gr8 (by rw [size_alloc]; have := HE.out.size; omega) (fun k hk => (HRO.out.lt k hk).1)
          have RO8 := hide1 ro8
          have HB8 := hide1 hb8
          clear ro8 hb8 gr8 wh8 lt8
          go_wp2
          go_roundw
          case rel => exact ⟨k + 1, by omega, by go_num, ⟨_, _, rfl⟩, RO8.out, HB8.out⟩
          case measure => simp [intOf]; omega
    · obtain rfl : k = N := by omega
      obtain ⟨hnl, hbl⟩ := own_nl (HLn.out k) hro
      have HNL := hide1 hnl
      have HBL := hide1 hbl
      have HE := hide1 hbe
      clear hro hbe hnl hbl
      go_wp2
      go_ret2
      exact ⟨_, _, _, rfl, HNL.out, HBL.out, HE.out⟩

theorem rwords_far (kl : List Nat) (x F N : Nat) (w : World) (hN : N ≤ 4096) (hF : F ≤ 134217728) (hh : 134217728 < F + N) (hk : kl.length = 32) :
    Calls Try.prog 41 #[arr8 kl, .int .u32 (x : Int), .int .i64 (F : Int), .int .i64 (N : Int)] w (WPost w [] 2) := by
  obtain ⟨F8, hF8⟩ : ∃ v, v = 8 * F := ⟨_, rfl⟩
  obtain ⟨N8, hN8⟩ : ∃ v, v = 8 * N := ⟨_, rfl⟩
  have kb := fun w => hide1 (rbytes_no kl x F8 N8 w (by omega))
  have Hz : Hid ((u8s kl).toArray.size = 32) := by show _ = _; simp [u8s, hk]
  have h1 : decide ((F : Int) < 0) = false := by simp
  have h2 : decide ((N : Int) < 0) = false := by simp
  have h3 : decide ((4096 : Int) < (N : Int)) = false := by rw [decide_eq_false_iff_not]; omega
  have h4 : decide ((134217728 : Int) < (F : Int)) = false := by rw [decide_eq_false_iff_not]; omega
  have e1 : 8 * (F : Int) = (F8 : Int) := by omega
  have e2 : 8 * (N : Int) = (N8 : Int) := by omega
  have b1 : (F8 : Int) ≤ 1073741824 := by omega
  have b2 : (N8 : Int) ≤ 32768 := by omega
  clear hF8 hN8 hk hN hF hh
  unfold arr8 at kb ⊢
  go_enter Try.func41, Try.ntmps41
  go_upto_region 3 with (fail)
  generalize hX : World.alloc w _ = X
  have x0 : X.heap[w.heap.size]? = some (row8 46 kl) := by rw [← hX]; exact heap_alloc_new _ _
  have xb : Below w.heap.size w X := by rw [← hX]; exact (Below.refl _ _).alloc (Nat.le_refl _) _
  have X0 := hide1 x0
  have XB := hide1 xb
  clear hX x0 xb
  go_wp2_with (first | (refine wpList_load_row rfl 46 (.tmp 4) rfl w.heap.size rfl 46 (u8s kl).toArray (0, 0) _ X0.out Try.underlying46 rfl (by rw [Hz.out]; kernel_rfl) ?_) | fail)
  go_at_call 51
  refine (kb _).out.mono ?_
  rintro e w1 ⟨rfl, hb1⟩
  have B1 := hide1 (XB.out.trans (hb1.mono XB.out.size))
  clear hb1 kb X0 XB
  go_wp2
  go_ret2
  exact ⟨_, _, _, rfl, nl_nil _, fun p hp => (by cases hp), B1.out⟩

theorem rwords_no (kl : List Nat) (x : Int) (f n : Int) (w : World) (h : f < 0 ∨ n < 0 ∨ 4096 < n ∨ 134217728 < f) :
    Calls Try.prog 41 #[arr8 kl, .int .u32 x, .int .i64 f, .int .i64 n] w fun e w' => WPost w [] 2 e w' := by
  have hB := fun (o : Obj) => hide1 ((Below.refl w.heap.size w).alloc (Nat.le_refl _) o)
  unfold arr8
  by_cases h1 : f < 0
  · clear h
    go_enter Try.func41, Try.ntmps41
    go_wp2
    go_ret2
    exact ⟨_, _, _, rfl, nl_nil _, fun p hp => (by cases hp), (hB _).out⟩
  · have h1' : decide (f < 0) = false := by rw [decide_eq_false_iff_not]; exact h1
    by_cases h2 : n < 0
    · clear h
      go_enter Try.func41, Try.ntmps41
      go_wp2
      go_ret2
      exact ⟨_, _, _, rfl, nl_nil _, fun p hp => (by cases hp), (hB _).out⟩
    · have h2' : decide (n < 0) = false := by rw [decide_eq_false_iff_not]; exact h2
      by_cases h3 : 4096 < n
      · clear h
        go_enter Try.func41, Try.ntmps41
        go_wp2
        go_ret2
        exact ⟨_, _, _, rfl, nl_nil _, fun p hp => (by cases hp), (hB _).out⟩
      · have h3' : decide (4096 < n) = false := by rw [decide_eq_false_iff_not]; exact h3
        have h4 : 134217728 < f := by omega
        clear h
        go_enter Try.func41, Try.ntmps41
        go_wp2
        go_ret2
        exact ⟨_, _, _, rfl, nl_nil _, fun p hp => (by cases hp), (hB _).out⟩

theorem rwords_any (kl : List Nat) (x : Nat) (f n : Int) (w : World) (hk : kl.length = 32) (bk : Lt 256 kl) (hx : x < 4294967296) :
    Calls Try.prog 41 #[arr8 kl, .int .u32 (x : Int), .int .i64 f, .int .i64 n] w (WPost w (wL kl x f n) (wC f n)) := by
  by_cases h : f < 0 ∨ n < 0 ∨ 4096 < n ∨ 134217728 < f
  · rw [wL_two (wC_no h), wC_no h]
    exact rwords_no kl x f n w h
  · obtain ⟨F, rfl⟩ := Int.eq_ofNat_of_zero_le (show 0 ≤ f by omega)
    obtain ⟨N, rfl⟩ := Int.eq_ofNat_of_zero_le (show 0 ≤ n by omega)
    by_cases h2 : F + N ≤ 134217728
    · rw [wC_yes (by omega) h2, wL_yes (by omega) h2]
      exact rwords_yes kl x F N w hk bk hx (by omega) h2
    · have e := wC_far (F := F) (N := N) (by omega) (by omega) (by omega)
      rw [wL_two e, e]
      exact rwords_far kl x F N w (by omega) (by omega) (by omega) hk
end Go.Proofs.Ytdmodknjcdkocaa.Pg

namespace Go.Proofs.Ytdmodknjcdkocaa
open Go.RowKit Pg
set_option maxRecDepth 100000
attribute [local go_sem] not_any

def big (a b : Nat) : Nat := a + 18446744073709551616 * b
def byP (a b i : Nat) : Nat := big a b / 2 ^ (8 * i) % 256
def bysP (a b : Nat) : Nat → List Nat
  | 0 => []
  | k + 1 => bysP a b k ++ [byP a b k]
theorem bysP_length (a b : Nat) : ∀ k, (bysP a b k).length = k
  | 0 => rfl
  | k + 1 => by rw [bysP, List.length_append, bysP_length]; rfl
theorem bysP_lt (a b : Nat) : ∀ k, Lt 256 (bysP a b k)
  | 0 => fun x h => by simp [bysP] at h
  | k + 1 => fun x h => by
    rw [bysP, List.mem_append] at h
    rcases h with h | h
    · exact bysP_lt a b k x h
    · rw [List.mem_singleton.1 h, byP]; exact Nat.mod_lt _ (by omega)

theorem by_lo {a b : Nat} (ha : a < 18446744073709551616) : ∀ {i : Nat}, i < 8 → a / 2 ^ (8 * i) % 256 = byP a b i
  | 0, _ => by have := ha; unfold byP big; omega
  | 1, _ => by have := ha; unfold byP big; omega
  | 2, _ => by have := ha; unfold byP big; omega
  | 3, _ => by have := ha; unfold byP big; omega
  | 4, _ => by have := ha; unfold byP big; omega
  | 5, _ => by have := ha; unfold byP big; omega
  | 6, _ => by have := ha; unfold byP big; omega
  | 7, _ => by have := ha; unfold byP big; omega
  | i + 8, h => by omega
theorem by_hi {a b : Nat} (ha : a < 18446744073709551616) (i : Nat) : b / 2 ^ (8 * i) % 256 = byP a b (8 + i) := by
  unfold byP big
  rw [show 8 * (8 + i) = 64 + 8 * i by omega, Nat.pow_add, ← Nat.div_div_eq_div_mul, show (a + 18446744073709551616 * b) / 2 ^ 64 = b by omega]

theorem big_bit {a b k : Nat} (ha : a < 18446744073709551616) (h : k < 128) : bt a b (k : Int) = (big a b).testBit k := by
  rw [big, show 18446744073709551616 = 2 ^ 64 from rfl, Nat.add_comm, Nat.testBit_two_pow_mul_add _ ha]
  by_cases h1 : k < 64
  · rw [bt_lo h1, if_pos h1]
  · obtain ⟨m, rfl⟩ : ∃ m, k = 64 + m := ⟨k - 64, by omega⟩
    rw [bt_hi (by omega), if_neg h1, Nat.add_sub_cancel_left]

/- the document's: a byte bit by bit, the highest first -/
def upB (x i j : Nat) : Nat := x / 2 ^ (8 * i + j) % 2 ^ (8 - j)
theorem upB_top (x i : Nat) : upB x i 8 = 0 := by rw [upB]; exact Nat.mod_one _
theorem upB_all (a b i : Nat) : upB (big a b) i 0 = byP a b i := rfl
theorem upB_lt (x i j : Nat) (h : 1 ≤ j) : upB x i j < 128 := by
  have h1 := Nat.mod_lt (x / 2 ^ (8 * i + j)) (Nat.two_pow_pos (8 - j))
  have h2 : 2 ^ (8 - j) ≤ 2 ^ 7 := Nat.pow_le_pow_right (by omega) (by omega)
  rw [upB]
  omega
theorem upB_step (x i j : Nat) (h : j < 8) : upB x i j = 2 * upB x i (j + 1) + (if x.testBit (8 * i + j) then 1 else 0) := by
  rw [upB, upB, show 8 - j = (8 - (j + 1)) + 1 by omega, Nat.pow_succ, Nat.mul_comm _ 2, Nat.mod_mul, show 8 * i + (j + 1) = (8 * i + j) + 1 by omega, Nat.pow_succ, ← Nat.div_div_eq_div_mul, Nat.testBit_eq_decide_div_mod_eq]
  generalize x / 2 ^ (8 * i + j) = q
  generalize q / 2 % 2 ^ (8 - (j + 1)) = z
  have : q % 2 = 0 ∨ q % 2 = 1 := by omega
  rcases this with h | h <;> simp [h] <;> omega

theorem shr_byte (a k : Nat) : IntKind.u8.wrap ((a : Int) / 2 ^ k) = ((a / 2 ^ k % 256 : Nat) : Int) := by
  have e : (a : Int) / 2 ^ k = ((a / 2 ^ k : Nat) : Int) := by rw [Int.natCast_ediv, Int.natCast_pow]; rfl
  rw [e, IntKind.wrap_u8]
  omega

theorem u8s_append (l m : List Nat) : u8s (l ++ m) = u8s l ++ u8s m := by simp [u8s]

end Go.Proofs.Ytdmodknjcdkocaa

namespace Go.Proofs.Ytdmodknjcdkocaa
open Go.RowKit Pg
set_option maxRecDepth 100000
attribute [local go_sem] not_any

theorem mixed : Try.prog.follows .mixedOrders = true := by kernel_rfl
/- two may come up -/
theorem ready2_f {P : Program} {ops : Array Oper} {Q : Exit → Act → World → Prop} {md : Region.Mode} {S : World → Prop} {F : List Nat} (i j : Nat) {o o' : Oper} {fuel : Nat} {listed : Array Bool} {a : Act} {w : World} (hr : Region.ready md ops listed = [i, j]) (ho : ops[i]? = some o) (ho' : ops[j]? = some o')
    (h : ∀ K : Act → World → Prop, Shut (∀ a' w', (i ∉ F → S w → S w') → wpAnyF P md ops Q S F fuel (listed.setIfInBounds i true) a' w' → K a' w') → if Region.wanted o (yielded ops a.tmps) = true then Oper.wp P o a w K Q else K (a.put o.dst undef) w)
    (h' : ∀ K : Act → World → Prop, Shut (∀ a' w', (j ∉ F → S w → S w') → wpAnyF P md ops Q S F fuel (listed.setIfInBounds j true) a' w' → K a' w') → if Region.wanted o' (yielded ops a.tmps) = true then Oper.wp P o' a w K Q else K (a.put o'.dst undef) w) :
    wpAnyF P md ops Q S F (fuel + 1) listed a w := by
  refine ⟨fun h0 => (by rw [hr] at h0; cases h0), ?_⟩
  intro k hk
  rw [hr] at hk
  rcases List.mem_cons.1 hk with e | hk
  · rw [e]
    exact wpOp_step ho (fun K hK => h K (fun a w hS hW => hK a w ⟨hS, hW⟩))
  · have e : k = j := by simpa using hk
    rw [e]
    exact wpOp_step ho' (fun K hK => h' K (fun a w hS hW => hK a w ⟨hS, hW⟩))

theorem skip_p {P : Program} {ops : Array Oper} {Q : Exit → Act → World → Prop} {md : Region.Mode} {S : World → Prop} {F : List Nat} (i d : Nat) {oi : Oper} {fuel : Nat} {listed : Array Bool} {tmps : Array Value} {ds : List Deferred} {w : World} (hi : ops[i]? = some oi) (hd : oi.dst = some d)
    (hs : Region.noSelect ops = true) (hf : Region.free md ops listed i = true) (hr : (Region.ready md ops listed).contains i = true)
    (hQ : ∀ c a w, Q (.panic c) (a.put oi.dst undef) w → Q (.panic c) a w) (hw : Region.wanted oi (yielded ops tmps) = false)
    (h : wpAnyF P md ops Q S F fuel (listed.setIfInBounds i true) ⟨tmps.setIfInBounds d undef, ds⟩ w) : wpAnyF P md ops Q S F (fuel + 1) listed ⟨tmps, ds⟩ w :=
  front (R := fun _ => True) (J := Clear md ops i oi) hi (Region.noSelect_spec hs) hQ
    (fun L j hL hri hrj hne => ⟨(hL.next hri hrj hne).1, (hL.next hri hrj hne).2, fun _ _ _ _ => trivial⟩)
    fuel listed _ w (Region.free_spec hi hf) (by simpa using hr) (Or.inr ⟨hw, rfl⟩) trivial (by rw [hd]; exact h)

/- nothing was held: from here on something is -/
theorem hold_f {P : Program} {ops : Array Oper} {Q : Exit → Act → World → Prop} {md : Region.Mode} {S : World → Prop} {F G : List Nat} : ∀ (fuel : Nat) (listed : Array Bool) (a : Act) (w : World), wpAnyF P md ops Q S F fuel listed a w → wpAnyF P md ops Q (fun _ => True) G fuel listed a w
  | 0, _, _, _, h => h
  | fuel + 1, _, _, _, h => ⟨h.1, fun i hi => wpOp_mono (fun a' w' h' => ⟨fun _ _ => trivial, hold_f fuel _ a' w' h'.2⟩) (h.2 i hi)⟩

/- a world in which all that was there in W is as it was -/
structure Bw (W : World) where
  w : World
  h : Below W.heap.size W w
theorem wp_region_quiet_bw {P : Program} {id : Nat} {Q : Exit → Act → World → Prop} {a : Act} {w : World} {l : List Oper} (hm : P.follows .mixedOrders = true) (hB : Region.lexB .any l.toArray = true)
    (h : wpQuiet P l.toArray (fun w' => ∃ p : Bw w, w' = p.w) (fun a' => ∀ w', (∃ p : Bw w, w' = p.w) → Q .normal a' w') l a) : (Code.region id l.toArray true).wp P Q a w :=
  wp_region_quiet (C := fun w' => ∃ p : Bw w, w' = p.w) hm hB ⟨⟨w.drew, (Below.refl _ _).drew⟩, rfl⟩ (by simpa using h)
theorem bw_of {P : Program} {f : FuncId} {args : Array Value} {W : World} {p : Bw W} {v : Value}
    (h : Calls P f args p.w fun e w' => e = .returned v ∧ Below p.w.heap.size p.w w') : Calls P f args p.w fun e w'' => e = .returned v ∧ ∃ p : Bw W, w'' = p.w :=
  h.mono fun _ w'' ⟨he, hb⟩ => ⟨he, ⟨w'', p.h.trans (hb.mono p.h.size)⟩, rfl⟩
theorem bw_cell {W : World} {a : Addr} {v : Value} (h : W.cell? a = some v) (p : Bw W) : p.w.cell? a = some v := (p.h.cell (block_lt_of_cell h)).trans h

theorem ex_by : txt (bysP 258 0 16) = ⟨#[2, 1, 0, 0, 0, 0, 0, 0, 0, 0, 0, 0, 0, 0, 0, 0]⟩ := by decide +kernel
theorem ex_tz : txt (zeros 14) = ⟨#[0, 0, 0, 0, 0, 0, 0, 0, 0, 0, 0, 0, 0, 0]⟩ := by decide +kernel
end Go.Proofs.Ytdmodknjcdkocaa
