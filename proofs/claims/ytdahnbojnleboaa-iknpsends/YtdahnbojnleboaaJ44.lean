/- Bits of a stream: the document's. The document's numbers, rows and lists of rows; rows held against rows. The document's rows of columns. -/
import Derived.Test.YtdahnbojnleboaaJ23
import Derived.Test.YtdahnbojnleboaaJ11
import Derived.Test.YtdahnbojnleboaaJ43
namespace Go.Proofs.Ytdahnbojnleboaa.Pg
open Go.RowKit
set_option maxRecDepth 100000
attribute [local go_sem] not_any

theorem own_bl {w : World} {base n cap : Nat} {e : TypeId} {a : Option Addr} {l : List Bool} (hn : l.length = n) (h : w.ownsRow base e 1 (.slice a n cap) n (V.bools l)) : V.Bl w n a l := by
  rcases h.2 with ⟨hv, _⟩ | ⟨g, cap', cur, hv, hb, _⟩
  · cases hv
    exact ⟨hn, fun j x hj => by rw [List.getElem?_eq_none (by omega)] at hj; cases hj⟩
  · cases hv
    refine ⟨hn, fun j x hj => ⟨g, 0, rfl, ?_⟩⟩
    have := h.cells (g := g) rfl j (.bool x) (by simp [V.bools, hj])
    rwa [Addr.add_lit] at this
theorem info4 : (Try.prog.info? 4).map (fun i => (i.zero, i.size, i.bytes)) = some (some (.bool false), 1, 1) := by kernel_rfl
theorem bools_one (l : List Bool) : ∀ v ∈ V.bools l, v.oneCell' = true := by
  intro v hv
  simp only [V.bools, List.mem_map] at hv
  obtain ⟨n, _, rfl⟩ := hv
  rfl
theorem bl_nil (w : World) : V.Bl w 0 none [] := ⟨rfl, fun k x h => by simp at h⟩

/- truths as an answer -/
def LPost (w : World) (bl : List Bool) (code : Int) (e : Ending) (w' : World) : Prop :=
  ∃ a m c, e = .returned (.tuple #[.slice a m c, .int .i64 code]) ∧ V.Bl w' m a bl ∧ Below w.heap.size w w' ∧ ∀ b, a.map (·.block) = some b → w.heap.size ≤ b ∧ b < w'.heap.size

set_option maxHeartbeats 4000000 in
theorem rbits_yes (kl : List Nat) (x F N : Nat) (w : World) (hk : kl.length = 32) (bk : Lt 256 kl) (hx : x < 4294967296) (hN : N ≤ 65536) (hF : F ≤ 1073741824) :
    Calls Try.prog 30 #[arr8 kl, .int .u32 (x : Int), .int .i64 (F : Int), .int .i64 (N : Int)] w (LPost w (bts kl x F N) 0) := by
  obtain ⟨i0, hi, hz0, hz1, hz2⟩ := info_of info4
  obtain ⟨s, hs⟩ : ∃ v, v = F % 8 := ⟨_, rfl⟩
  obtain ⟨c, hc⟩ : ∃ v, v = F / 8 := ⟨_, rfl⟩
  obtain ⟨T, hT⟩ : ∃ v, v = s + N := ⟨_, rfl⟩
  obtain ⟨T7, hT7⟩ : ∃ v, v = T + 7 := ⟨_, rfl⟩
  obtain ⟨B, hB⟩ : ∃ v, v = T7 / 8 := ⟨_, rfl⟩
  have kb := fun w => hide1 (rbytes_yes kl x c B w hk bk hx (by omega) (by omega))
  have HT : Shy (nums (txt (byt kl x c B)) = byt kl x c B) := ⟨nums_txt (byt_lt _ _ _ _)⟩
  have hts : (txt (byt kl x c B)).size = B := by rw [nums_size HT.out, byt_length]
  have HLt : Shy (Lt 256 (byt kl x c B)) := ⟨byt_lt _ _ _ _⟩
  have HBit : Shy (∀ k, k < N → (at0 (byt kl x c B) ((s + k) / 8)).testBit ((s + k) % 8) = sbit kl x (F + k)) := ⟨fun k hkN => by
    rw [byt_at (by omega), sbit, show (F + k) / 8 = c + (s + k) / 8 by omega, show (F + k) % 8 = (s + k) % 8 by omega]⟩
  have HSuc : Shy (∀ k, bts kl x F (k + 1) = bts kl x F k ++ [sbit kl x (F + k)]) := ⟨bts_succ kl x F⟩
  have HLn : Shy (∀ k, (bts kl x F k).length = k) := ⟨bts_length kl x F⟩
  have HZ : Shy (bts kl x F 0 = []) := ⟨rfl⟩
  have Hz : Hid ((u8s kl).toArray.size = 32) := by show _ = _; simp [u8s, hk]
  generalize txt (byt kl x c B) = tp at *
  generalize byt kl x c B = lb at *
  have h1 : decide ((F : Int) < 0) = false := by simp
  have h2 : decide ((N : Int) < 0) = false := by simp
  have h3 : decide ((65536 : Int) < (N : Int)) = false := by rw [decide_eq_false_iff_not]; omega
  have h4 : decide ((1073741824 : Int) < (F : Int)) = false := by rw [decide_eq_false_iff_not]; omega
  have es : (F : Int) % 8 = (s : Int) := by omega
  have ec : (F : Int) / 8 = (c : Int) := by omega
  have eT : (s : Int) + (N : Int) = (T : Int) := by omega
  have eT7 : (T : Int) + 7 = (T7 : Int) := by omega
  have eB : (T7 : Int) / 8 = (B : Int) := by omega
  have b1 : (c : Int) ≤ 134217728 := by omega
  have b2 : (T : Int) ≤ 65600 := by omega
  have b4 : (T7 : Int) ≤ 65700 := by omega
  have b5 : (B : Int) ≤ 8200 := by omega
  have b7 : (s : Int) < 8 := by omega
  have HD : Shy (T = s + N ∧ T + 7 = T7 ∧ B = T7 / 8 ∧ N ≤ 65536 ∧ s < 8) := ⟨⟨hT, hT7.symm, hB, hN, by omega⟩⟩
  clear hs hc hT hT7 hB hk bk hx hN hF
  unfold arr8 at kb ⊢
  go_enter Try.func30, Try.ntmps30
  go_upto_region 3 with (fail)
  generalize hX : World.alloc w _ = X
  have x0 : X.heap[w.heap.size]? = some (row8 23 kl) := by rw [← hX]; exact heap_alloc_new _ _
  have xb : Below w.heap.size w X := by rw [← hX]; exact (Below.refl _ _).alloc (Nat.le_refl _) _
  have X0 := hide1 x0
  have XB := hide1 xb
  clear hX x0 xb
  go_wp2_with (first | (refine wpList_load_row rfl 23 (.tmp 4) rfl w.heap.size rfl 23 (u8s kl).toArray (0, 0) _ X0.out Try.underlying23 rfl (by rw [Hz.out]; kernel_rfl) ?_) | fail)
  go_at_call 51
  refine (kb _).out.mono ?_
  rintro e w1 ⟨rfl, hb1⟩
  have B1 := hide1 (XB.out.trans (hb1.mono XB.out.size))
  clear hb1 kb X0 XB
  go_wp2
  rw [es]
  go_loopw [12, 13] (fun v12 v13 wr => ∃ k i : Nat, k ≤ N ∧ i = s + k ∧ v13 = .int .i64 i ∧ (∃ a c, v12 = .slice a k c) ∧ wr.ownsRow w.heap.size 4 1 v12 k (V.bools (bts kl x F k)) ∧ Below w.heap.size w wr) (fun _ v13 _ => T - (intOf v13).toNat)
  case atStart => exact ⟨0, s, Nat.zero_le _, rfl, rfl, ⟨none, 0, rfl⟩, by rw [HZ.out]; exact World.ownsRow_nil _ _ _ _, B1.out⟩
  case round =>
    obtain ⟨k, i, hk, hik, rfl, ⟨a12, c12, rfl⟩, hro, hbe⟩ := hrel
    by_cases hlt : k < N
    · have hlti : (i : Int) < (T : Int) := by have := HD.out; omega
      have hbit := HBit.out k hlt
      have hS := HSuc.out k
      rw [← hik] at hbit
      obtain ⟨q, hq⟩ : ∃ v, v = i / 8 := ⟨_, rfl⟩
      obtain ⟨m, hm⟩ : ∃ v, v = i % 8 := ⟨_, rfl⟩
      have hix := fun w => run_index tp q (by have := HD.out; omega) w
      rw [HT.out] at hix
      have bb := HLt.out.at (by omega) q
      rw [← hq, ← hm] at hbit
      generalize at0 lb q = b at *
      generalize sbit kl x (F + k) = t at *
      obtain ⟨d, hd⟩ : ∃ v, v = b / 2 ^ m := ⟨_, rfl⟩
      obtain ⟨r, hr⟩ : ∃ v, v = d % 2 := ⟨_, rfl⟩
      have e1 : (b : Int) / 2 ^ m = (d : Int) := by rw [hd, Int.natCast_ediv, Int.natCast_pow]; rfl
      have e2 : (d : Int) % 2 = (r : Int) := by omega
      have e2' : Int.tmod (d : Int) 2 = (r : Int) := by rw [Int.tmod_eq_emod_of_nonneg (by omega), e2]
      have e3 : ((r : Int) == 1) = t := by
        rw [← hbit, Nat.testBit_eq_decide_div_mod_eq, ← hd, ← hr]
        by_cases h : r = 1
        · subst h; rfl
        · rw [decide_eq_false h, beq_eq_false_iff_ne]; omega
      have e3' : (r == 1) = t := by
        rw [← e3]
        by_cases h : r = 1
        · subst h; rfl
        · rw [beq_eq_false_iff_ne.2 h, eq_comm, beq_eq_false_iff_ne]; omega
      have eq1 : (i : Int) / 8 = (q : Int) := by omega
      have em : (i : Int) % 8 = (m : Int) := by omega
      have bq : (q : Int) < (B : Int) := by have := HD.out; omega
      have bm : (m : Int) < 8 := by omega
      have bi : (i : Int) ≤ 65600 := by omega
      have HS : Shy (bts kl x F (k + 1) = bts kl x F k ++ [t]) := ⟨hS⟩
      have HI : Shy (i = s + k) := ⟨hik⟩
      have HRO := hide1 hro
      have HE := hide1 hbe
      have hk6 : k ≤ 65536 := by have := HD.out; omega
      clear hbit hS hro hbe hq hm hd hr hik
      go_wp2_with (first
        | (at_builtin; go_must (refine wpList_append_lies _ rfl (.tmp 55) (.tmp 66) 25 rfl w.heap.size 4 i0 (.bool false) 1 1 Try.underlying25 hi hz0 hz1 hz2 rfl (by decide) (.slice a12 k c12) k (V.bools (bts kl x F k)) rfl (HRO.out.alloc _) ⟨wr.heap.size, 0, none⟩ 1 1 (V.bools [t]) rfl rfl (World.news_of_block (heap_alloc_new wr (V.brow [t]))) (bools_one _) (by omega) (by unfold maxLen; omega) (by omega) (by have := HE.out.size; rw [size_alloc]; omega) _ rfl ?_; intro g8 cap8 w8 ro8 gr8 wh8 lt8))
        | fail)
      rw [show V.bools (bts kl x F k) ++ V.bools [t] = V.bools (bts kl x F (k + 1)) by rw [HS.out]; simp [V.bools]] at ro8
      have hb8 : Below w.heap.size w w8 := (HE.out.alloc HE.out.size _).grown gr8 (by rw [size_alloc]; have := HE.out.size; omega) (fun k hk => (HRO.out.lt k hk).1)
      have RO8 := hide1 ro8
      have HB8 := hide1 hb8
      clear ro8 hb8 gr8 wh8 lt8
      go_wp2
      go_roundw
      case rel => exact ⟨k + 1, i + 1, by omega, by have := HI.out; omega, by go_num, ⟨_, _, rfl⟩, RO8.out, HB8.out⟩
      case measure => simp [intOf]; have := HI.out; have := HD.out; omega
    · obtain rfl : k = N := by omega
      have hnl := own_bl (HLn.out k) hro
      have hlti : ¬ (i : Int) < (T : Int) := by have := HD.out; omega
      have HNL := hide1 hnl
      have HFAR : Hid (∀ b, a12.map (·.block) = some b → w.heap.size ≤ b ∧ b < wr.heap.size) := fun b hb => by
        cases a12 with
        | none => cases hb
        | some ad => cases hb; exact hro.lt ad.block rfl
      have HE := hide1 hbe
      clear hro hbe hnl
      go_wp2
      go_ret2
      exact ⟨_, _, _, rfl, HNL.out, HE.out, HFAR.out⟩

theorem rbits_no (kl : List Nat) (x : Int) (f n : Int) (w : World) (h : f < 0 ∨ n < 0 ∨ 65536 < n ∨ 1073741824 < f) :
    Calls Try.prog 30 #[arr8 kl, .int .u32 x, .int .i64 f, .int .i64 n] w fun e w' => LPost w [] 2 e w' := by
  have hB := fun (o : Obj) => hide1 ((Below.refl w.heap.size w).alloc (Nat.le_refl _) o)
  unfold arr8
  by_cases h1 : f < 0
  · clear h
    go_enter Try.func30, Try.ntmps30
    go_wp2
    go_ret2
    exact ⟨_, _, _, rfl, bl_nil _, (hB _).out, fun b hb => by cases hb⟩
  · have h1' : decide (f < 0) = false := by rw [decide_eq_false_iff_not]; exact h1
    by_cases h2 : n < 0
    · clear h
      go_enter Try.func30, Try.ntmps30
      go_wp2
      go_ret2
      exact ⟨_, _, _, rfl, bl_nil _, (hB _).out, fun b hb => by cases hb⟩
    · have h2' : decide (n < 0) = false := by rw [decide_eq_false_iff_not]; exact h2
      by_cases h3 : 65536 < n
      · clear h
        go_enter Try.func30, Try.ntmps30
        go_wp2
        go_ret2
        exact ⟨_, _, _, rfl, bl_nil _, (hB _).out, fun b hb => by cases hb⟩
      · have h3' : decide (65536 < n) = false := by rw [decide_eq_false_iff_not]; exact h3
        have h4 : 1073741824 < f := by omega
        clear h
        go_enter Try.func30, Try.ntmps30
        go_wp2
        go_ret2
        exact ⟨_, _, _, rfl, bl_nil _, (hB _).out, fun b hb => by cases hb⟩

theorem rbits_any (kl : List Nat) (x : Nat) (f n : Int) (w : World) (hk : kl.length = 32) (bk : Lt 256 kl) (hx : x < 4294967296) :
    Calls Try.prog 30 #[arr8 kl, .int .u32 (x : Int), .int .i64 f, .int .i64 n] w (LPost w (tL kl x f n) (tC f n)) := by
  by_cases h : f < 0 ∨ n < 0 ∨ 65536 < n ∨ 1073741824 < f
  · rw [tL_two (tC_no h), tC_no h]
    exact rbits_no kl x f n w h
  · obtain ⟨F, rfl⟩ := Int.eq_ofNat_of_zero_le (show 0 ≤ f by omega)
    obtain ⟨N, rfl⟩ := Int.eq_ofNat_of_zero_le (show 0 ≤ n by omega)
    rw [tC_yes (by omega) (by omega), tL_yes (by omega) (by omega)]
    exact rbits_yes kl x F N w hk bk hx (by omega) (by omega)
end Go.Proofs.Ytdahnbojnleboaa.Pg

namespace Go.Proofs.Ytdahnbojnleboaa.I
open Go.RowKit Pg
set_option maxRecDepth 100000
attribute [local go_sem] not_any T.mf_any

theorem rspan_any (F n : Nat) (w : World) (hF : F < 18446744073709551616) (hn : n ≤ 4194304) :
    Calls Try.prog 29 #[.int .u64 (F : Int), .int .i64 (n : Int)] w fun e w' => e = .returned (.int .i64 (nC F n : Nat)) ∧ w' = w := by
  by_cases h1 : n < 1
  · have d1 : decide ((n : Int) < 1) = true := decide_eq_true (by omega)
    rw [show nC F n = 2 from if_pos (.inl h1)]
    go_enter Try.func29, Try.ntmps29
    go_wp2
    go_ret
    exact ⟨rfl, rfl⟩
  · have d1 : decide ((n : Int) < 1) = false := decide_eq_false (by omega)
    by_cases h2 : 4096 < n
    · have d2 : decide ((4096 : Int) < (n : Int)) = true := decide_eq_true (by omega)
      rw [show nC F n = 2 from if_pos (.inr h2)]
      go_enter Try.func29, Try.ntmps29
      go_wp2
      go_ret
      exact ⟨rfl, rfl⟩
    · have d2 : decide ((4096 : Int) < (n : Int)) = false := decide_eq_false (by omega)
      by_cases h3 : 67108864 < F
      · have d3 : decide ((67108864 : Int) < (F : Int)) = true := decide_eq_true (by omega)
        rw [show nC F n = 24 by rw [nC, if_neg (by omega), if_pos (by omega)]]
        go_enter Try.func29, Try.ntmps29
        go_wp2
        go_ret
        exact ⟨rfl, rfl⟩
      · have d3 : decide ((67108864 : Int) < (F : Int)) = false := decide_eq_false (by omega)
        have e1 : IntKind.i64.wrap (F : Int) = (F : Int) := by rw [IntKind.wrap_i64]; omega
        obtain ⟨m, hm⟩ : ∃ m : Nat, m = F + n := ⟨_, rfl⟩
        have e2 : IntKind.i64.wrap ((F : Int) + (n : Int)) = (m : Int) := by rw [IntKind.wrap_i64]; omega
        have e3 : (F : Int) + (n : Int) = (m : Int) := by omega
        by_cases h4 : 67108864 < m
        · have d4 : decide ((67108864 : Int) < (m : Int)) = true := decide_eq_true (by omega)
          rw [show nC F n = 24 by rw [nC, if_neg (by omega), if_pos (by omega)]]
          clear hm
          go_enter Try.func29, Try.ntmps29
          go_wp2
          go_ret
          exact ⟨rfl, rfl⟩
        · have d4 : decide ((67108864 : Int) < (m : Int)) = false := decide_eq_false (by omega)
          rw [show nC F n = 0 by rw [nC, if_neg (by omega), if_neg (by omega)]]
          clear hm
          go_enter Try.func29, Try.ntmps29
          go_wp2
          go_ret
          exact ⟨rfl, rfl⟩

/- the same rows -/
theorem rows_same (w : World) (n c d : Nat) (a b : Option Addr) (R : Nat → Nat → Nat) (ha : T.Rws w n a R) (hb : T.Rws w n b R) (hn : n ≤ 4096) :
    Calls Try.prog 12 #[.slice a n c, .slice b n d] w fun e w' => e = .returned (.bool true) ∧ Below w.heap.size w w' := by
  have HA := hide1 ha
  have HB := hide1 hb
  have t1 : ((n : Int) != (n : Int)) = false := by simp
  clear ha hb
  go_enter Try.func12, Try.ntmps12
  go_wp2
  go_loopw [5] (fun iv wr => ∃ j : Nat, j ≤ n ∧ iv = .int .i64 j ∧ Below w.heap.size w wr) (fun iv _ => n - (intOf iv).toNat)
  case atStart => exact ⟨0, Nat.zero_le _, rfl, Below.refl _ _⟩
  case round =>
    obtain ⟨j, hj, rfl, hbe⟩ := hrel
    have HBE := hide1 hbe
    by_cases hlt : j < n
    · have hlt' : (j : Int) < (n : Int) := by omega
      obtain ⟨ga, oa, rfl, c0, c1⟩ := (HA.out.below hbe (Nat.le_refl _)).at' j hlt
      obtain ⟨gb, ob, rfl, d0, d1⟩ := (HB.out.below hbe (Nat.le_refl _)).at' j hlt
      obtain ⟨x0, hx0⟩ : ∃ x0, x0 = R j 0 := ⟨_, rfl⟩
      obtain ⟨x1, hx1⟩ : ∃ x1, x1 = R j 1 := ⟨_, rfl⟩
      rw [← hx0] at c0 d0
      rw [← hx1] at c1 d1
      have heq : ∀ w, (Op.equalIn 10000 28 (.agg #[.int .u64 (x0 : Int), .int .u64 (x1 : Int)]) (.agg #[.int .u64 (x0 : Int), .int .u64 (x1 : Int)])).run Try.prog w = .ok true w := fun w => by rw [eq_rows, decide_eq_true ⟨rfl, rfl⟩]
      have heg := guardR
      clear hx0 hx1 hbe
      go_wp2
      go_quiet (fail)
      go_wp2
      go_roundw
      case rel => exact ⟨j + 1, by omega, by go_num, HBE.out.trans (below_drewN' (Below.refl _ _) _)⟩
      case measure => simp [intOf]; omega
    · obtain rfl : j = n := by omega
      have hlt' : ¬ (j : Int) < (j : Int) := by omega
      clear hbe
      go_wp2
      go_ret
      exact ⟨rfl, HBE.out⟩

/- a row, bit by bit -/
theorem take_get (l : List Bool) (i j : Nat) : (l.take i).getD j false = (decide (j < i) && l.getD j false) := by
  rw [List.getD_eq_getElem?_getD, List.getD_eq_getElem?_getD, List.getElem?_take]
  by_cases h : j < i
  · rw [if_pos h, decide_eq_true h, Bool.true_and]
  · rw [if_neg h, decide_eq_false h, Bool.false_and]; rfl
theorem row_off (l : List Bool) {i p : Nat} (h : l.getD i false = false ∨ p ≠ i / 64) : T.chunk 64 (l.take (i + 1)) p = T.chunk 64 (l.take i) p := by
  apply Nat.eq_of_testBit_eq
  intro b
  rw [T.chunk_testBit, T.chunk_testBit, take_get, take_get]
  by_cases hb : b < 64
  · by_cases e : 64 * p + b = i
    · rcases h with h | h
      · rw [e, h]; simp
      · omega
    · rw [show decide (64 * p + b < i + 1) = decide (64 * p + b < i) by
        rw [Bool.eq_iff_iff, decide_eq_true_eq, decide_eq_true_eq]; omega]
  · rw [decide_eq_false hb, Bool.false_and, Bool.false_and]
theorem row_low (l : List Bool) (i : Nat) : T.chunk 64 (l.take i) (i / 64) < 2 ^ (i % 64) := by
  apply Nat.lt_pow_two_of_testBit
  intro b hb
  rw [T.chunk_testBit, take_get]
  by_cases h : b < 64
  · rw [show decide (64 * (i / 64) + b < i) = false from decide_eq_false (by omega)]; simp
  · rw [decide_eq_false h, Bool.false_and]
theorem row_on (l : List Bool) {i : Nat} (h : l.getD i false = true) : T.chunk 64 (l.take (i + 1)) (i / 64) = T.chunk 64 (l.take i) (i / 64) + 2 ^ (i % 64) := by
  have hlow := row_low l i
  rw [Nat.add_comm (T.chunk 64 (l.take i) (i / 64)), show 2 ^ (i % 64) + T.chunk 64 (l.take i) (i / 64) = 2 ^ (i % 64) * 1 + T.chunk 64 (l.take i) (i / 64) by rw [Nat.mul_one], Nat.two_pow_add_eq_or_of_lt hlow]
  apply Nat.eq_of_testBit_eq
  intro b
  rw [Nat.testBit_or, T.chunk_testBit, T.chunk_testBit, take_get, take_get, Nat.mul_one, Nat.testBit_two_pow]
  by_cases hb : b < 64
  · by_cases e : i % 64 = b
    · rw [show 64 * (i / 64) + b = i by omega, h, decide_eq_true hb, decide_eq_true e]; simp
    · rw [decide_eq_true hb, decide_eq_false e, show decide (64 * (i / 64) + b < i + 1) = decide (64 * (i / 64) + b < i) by
        rw [Bool.eq_iff_iff, decide_eq_true_eq, decide_eq_true_eq]; omega]
      simp
  · rw [decide_eq_false hb, decide_eq_false (show ¬ i % 64 = b by omega)]; simp
theorem chunk_lt64 (l : List Bool) (p : Nat) : T.chunk 64 l p < 18446744073709551616 := T.chunk64_lt l p

set_option maxHeartbeats 4000000 in
theorem row16_any (w : World) (c : Nat) (a : Option Addr) (l : List Bool) (hl : T.Bl w 128 a l) :
    Calls Try.prog 52 #[.slice a 128 c] w fun e w' => e = .returned (rw2 (T.chunk 64 l 0) (T.chunk 64 l 1)) ∧ Below w.heap.size w w' := by
  have HL := hide1 hl
  have hlen := hl.len
  clear hl
  obtain ⟨W0, hW0⟩ : ∃ W0, W0 = (w.alloc (.cells #[.int .u64 0, .int .u64 0] 28)).alloc (.cells #[.int .u64 0, .int .u64 0] 28) := ⟨_, rfl⟩
  have A0 := hide1 (At.start w (.cells #[.int .u64 0, .int .u64 0] 28) (.cells #[.int .u64 0, .int .u64 0] 28))
  rw [← hW0] at A0
  have z0 : T.chunk 64 (l.take 0) 0 = 0 := rfl
  have z1 : T.chunk 64 (l.take 0) 1 = 0 := rfl
  go_enter Try.func52, Try.ntmps52
  go_upto_region 2 with (fail)
  rw [← hW0]
  clear hW0
  go_wp2
  go_loopw [4] (fun iv wr => ∃ i : Nat, i ≤ 128 ∧ iv = .int .i64 i ∧ At w wr (.cells #[.int .u64 0, .int .u64 0] 28) (row2 (T.chunk 64 (l.take i) 0) (T.chunk 64 (l.take i) 1))) (fun iv _ => 128 - (intOf iv).toNat)
  case atStart => exact ⟨0, Nat.zero_le _, rfl, by rw [z0, z1]; exact A0.out⟩
  case round =>
    obtain ⟨i, hi, rfl, hA⟩ := hrel
    clear A0
    have HA := hide1 hA
    clear hA
    by_cases hlt : i < 128
    · have hlt' : (i : Int) < 128 := by omega
      obtain ⟨g, o, rfl, e0⟩ := HL.out.at' i (l[i]'(by omega)) (List.getElem?_eq_getElem (by omega))
      have e0' : w.cell? ⟨g, o + i, none⟩ = some (.bool (l.getD i false)) := by rw [e0, List.getD_eq_getElem?_getD, List.getElem?_eq_getElem (show i < l.length by omega)]; rfl
      have c0 := (HA.out.bel.cell (p := ⟨g, o + i, none⟩) (T.lt_cell e0')).trans e0'
      clear e0 e0'
      cases hb : l.getD i false with
      | false =>
        rw [hb] at c0
        have r0 := row_off l (i := i) (p := 0) (.inl hb)
        have r1 := row_off l (i := i) (p := 1) (.inl hb)
        have HR := hide1 (And.intro r0 r1)
        clear r0 r1 hb
        go_wp2
        go_roundw
        case rel => exact ⟨i + 1, by omega, by go_num, by rw [HR.out.1, HR.out.2]; exact HA.out⟩
        case measure => simp [intOf]; omega
      | true =>
        rw [hb] at c0
        obtain ⟨q, hq⟩ : ∃ q, q = i / 64 := ⟨_, rfl⟩
        obtain ⟨j, hj⟩ : ∃ j, j = i % 64 := ⟨_, rfl⟩
        have hj64 : j < 64 := by omega
        obtain ⟨P, hP⟩ : ∃ P : Nat, P = 2 ^ j := ⟨_, rfl⟩
        have hon := row_on l hb
        rw [← hq, ← hj, ← hP] at hon
        have hlt2 := chunk_lt64 (l.take (i + 1)) q
        rw [hon] at hlt2
        have hoff : ∀ p, p ≠ q → T.chunk 64 (l.take (i + 1)) p = T.chunk 64 (l.take i) p := fun p hp => row_off l (.inr (by rw [← hq]; exact hp))
        have wp := T.wrap_pow hj64
        rw [← hP] at wp
        have e1 : (i : Int) / 64 = (q : Int) := by omega
        have e2 : (i : Int) % 64 = (j : Int) := by omega
        have e3 : IntKind.u64.wrap (j : Int) = (j : Int) := by rw [IntKind.wrap_u64]; omega
        have hq2 : (q : Int) < 2 := by omega
        have HRow : Hid (∃ x0 x1, T.chunk 64 (l.take i) 0 = x0 ∧ T.chunk 64 (l.take i) 1 = x1) := ⟨_, _, rfl, rfl⟩
        obtain ⟨x, hx⟩ : ∃ x, x = T.chunk 64 (l.take i) q := ⟨_, rfl⟩
        rw [← hx] at hon hlt2
        obtain ⟨y, hy⟩ : ∃ y, y = x + P := ⟨_, rfl⟩
        have e4 : IntKind.u64.wrap ((x : Int) + (P : Int)) = (y : Int) := by rw [IntKind.wrap_u64]; omega
        rw [← hy] at hon
        have hcell : wr.cell? ⟨w.heap.size + 1, q, none⟩ = some (.int .u64 (x : Int)) := by
          obtain ⟨k0, k1, _⟩ := T.box2 HA.out.h2
          rcases (by omega : q = 0 ∨ q = 1) with h | h
          · rw [h, hx, h]; exact k0
          · rw [h, hx, h]; exact k1
        have hfz := frozen_of_row wr (w.heap.size + 1) q _ _ HA.out.h2
        have hgl := T.lt_heap HA.out.h2
        have HN : Hid (((wr.setCell ⟨w.heap.size + 1, q, none⟩ (.int .u64 (y : Int))).heap[w.heap.size + 1]? = some (row2 (T.chunk 64 (l.take (i + 1)) 0) (T.chunk 64 (l.take (i + 1)) 1)))) := by
          have h9 := heap_setCell_same wr (w.heap.size + 1) q _ _ (.int .u64 (y : Int)) HA.out.h2
          rw [h9]
          rcases (by omega : q = 0 ∨ q = 1) with h | h
          · rw [h] at hon hoff ⊢
            rw [hoff 1 (by omega), hon]; rfl
          · rw [h] at hon hoff ⊢
            rw [hoff 0 (by omega), hon]; rfl
        have HBE := hide1 (HA.out.bel.setCell (show w.heap.size ≤ (⟨w.heap.size + 1, q, none⟩ : Addr).block by simp) (.int .u64 (y : Int)))
        have HO := hide1 ((heap_setCell_other wr ⟨w.heap.size + 1, q, none⟩ w.heap.size (.int .u64 (y : Int)) (by simp)).trans HA.out.h1)
        clear hq hj hP hon hlt2 hoff hx hy HRow hb
        go_wp2
        go_roundw
        case rel => exact ⟨i + 1, by omega, by go_num, HBE.out, HO.out, HN.out⟩
        case measure => simp [intOf]; omega
    · obtain rfl : i = 128 := by omega
      have HT : Hid (l.take 128 = l) := List.take_of_length_le (by omega)
      have A9 := HA.out
      rw [HT.out] at A9
      obtain ⟨k0, k1, _⟩ := T.box2 A9.h2
      have B2 := T.box2 A9.h1
      obtain ⟨b0, b1, b2, b3, b4⟩ := B2
      have AA := hide1 A9
      clear HA A9
      go_wp2
      refine ret_row Try.results52 w.heap.size 28 #[.int .u64 (T.chunk 64 l 0 : Nat), .int .u64 (T.chunk 64 l 1 : Nat)] rfl (T.set_box2 AA.out.h1) Try.underlying28 (by kernel_rfl) rfl ?_
      exact ⟨rfl, (AA.out.bel.setCell (Nat.le_refl _) _).setCell (Nat.le_refl _) _⟩
end Go.Proofs.Ytdahnbojnleboaa.I

namespace Go.Proofs.Ytdahnbojnleboaa.I
open Go.RowKit Pg
set_option maxRecDepth 100000
attribute [local go_sem] not_any T.mf_any

/- bit j of each column -/
def crow (L : Nat → List Bool) (j k : Nat) : List Bool := (List.range k).map fun i => (L i).getD j false
theorem crow_length (L : Nat → List Bool) (j k : Nat) : (crow L j k).length = k := by simp [crow]
theorem crow_succ (L : Nat → List Bool) (j k : Nat) : crow L j (k + 1) = crow L j k ++ [(L k).getD j false] := by rw [crow, crow, List.range_succ, List.map_append]; rfl
theorem crow_get (L : Nat → List Bool) (j k i : Nat) (h : i < k) : (crow L j k).getD i false = (L i).getD j false := by
  rw [List.getD_eq_getElem?_getD, crow, List.getElem?_map, List.getElem?_range h]; rfl
theorem crow_row (L : Nat → List Bool) (j : Nat) {p : Nat} (hp : p < 2) : T.chunk 64 (crow L j 128) p = T.rowV L j p := by
  apply Nat.eq_of_testBit_eq
  intro b
  by_cases hb : b < 64
  · rw [T.rowV_bit _ _ _ _ hb, T.chunk_testBit, decide_eq_true hb, Bool.true_and, crow_get _ _ _ _ (by omega), Nat.mul_comm 64 p]
  · rw [high_bit (chunk_lt64 _ _) hb, high_bit (T.rowV_lt _ _ _) hb]

set_option maxHeartbeats 8000000 in
theorem rrows_any (w : World) (v : Value) (N : Nat) (aa : Nat → Option Addr) (nn cc : Nat → Nat) (L : Nat → List Bool) (hv : T.Brd w v 128 aa nn cc L) (hn : ∀ i, i < 128 → nn i = N) (hN : N ≤ 4096) :
    Calls Try.prog 31 #[v] w fun e w' => ∃ la lc, e = .returned (.slice la N lc) ∧ T.Rws w' N la (T.rowV L) ∧ Below w.heap.size w w' := by
  obtain ⟨i0, hi0, hz0, hz1, hz2⟩ := info_parts infoR
  obtain ⟨i4, hi4, hy0, hy1, hy2⟩ := info_of info4
  obtain ⟨gv, cv, rfl, hgv, hcs⟩ := hv.at'
  have HC := hide1 hcs
  have HBL : Hid (∀ i, i < 128 → T.Bl w N (aa i) (L i)) := fun i hi => by have := hv.bl i hi; rwa [hn i hi] at this
  have HNN := hide1 hn
  have c0 := hcs 0 (by omega)
  rw [hn 0 (by omega)] at c0
  have C0 := hide1 c0
  obtain ⟨M, hM⟩ : ∃ M, M = T.rowV L := ⟨_, rfl⟩
  have HM : Hid (∀ j p, p < 2 → M j p = T.chunk 64 (crow L j 128) p) := fun j p hp => by rw [hM, crow_row L j hp]
  have HML : Shy (∀ j p, M j p < 18446744073709551616) := ⟨by rw [hM]; exact T.rowV_lt L⟩
  rw [← hM]
  clear hv hcs hn c0 hM
  go_enter Try.func31, Try.ntmps31
  go_wp2
  go_loopw [3, 4] (fun ov iv wr => ∃ j : Nat, j ≤ N ∧ iv = .int .i64 j ∧ wr.ownsRow w.heap.size 28 2 ov j (T.rcs M j) ∧ Below w.heap.size w wr) (fun _ iv _ => N - (intOf iv).toNat)
  case atStart => exact ⟨0, Nat.zero_le _, rfl, World.ownsRow_nil _ _ _ _, Below.refl _ _⟩
  case round =>
    obtain ⟨j, hj, rfl, hown, hbe⟩ := hrel
    obtain ⟨la, lc, rfl⟩ := T.row_form hown
    have HO := hide1 hown
    have HBE := hide1 hbe
    have c0 := (hbe.cell (p := ⟨gv, 0, none⟩) hgv).trans C0.out
    clear hown
    by_cases hlt : j < N
    · have hlt' : (j : Int) < (N : Int) := by omega
      go_upto_region 6 with (fail)
      clear c0 hbe
      obtain ⟨wo, hwo⟩ : ∃ W, W = wr := ⟨_, rfl⟩
      subst hwo
      go_wp2
      go_loopw [5, 6] (fun ov iv wr => ∃ k : Nat, k ≤ 128 ∧ iv = .int .i64 k ∧ wr.ownsRow wo.heap.size 4 1 ov k (T.bools (crow L j k)) ∧ Below wo.heap.size wo wr) (fun _ iv _ => 128 - (intOf iv).toNat)
      case atStart => exact ⟨0, Nat.zero_le _, rfl, World.ownsRow_nil _ _ _ _, Below.refl _ _⟩
      case round =>
        obtain ⟨k, hk, rfl, hol, hbq⟩ := hrel
        obtain ⟨ia, ic, rfl⟩ := T.row_form hol
        have HOL := hide1 hol
        have HBQ := hide1 hbq
        clear hol
        by_cases hlk : k < 128
        · have hlk' : (k : Int) < 128 := by omega
          have hwr : Below w.heap.size w wr := HBE.out.trans (hbq.mono HBE.out.size)
          have ck := (hwr.cell (p := ⟨gv, k, none⟩) hgv).trans (HC.out k hlk)
          rw [HNN.out k hlk] at ck
          have hbl := (HBL.out k hlk).below hwr (Nat.le_refl _)
          have hlen : j < (L k).length := by rw [hbl.len]; exact hlt
          obtain ⟨gl, ol, ea, cl'⟩ := hbl.at' j ((L k)[j]'hlen) (List.getElem?_eq_getElem hlen)
          rw [ea] at ck
          have cy : wr.cell? ⟨gl, ol + j, none⟩ = some (.bool ((L k).getD j false)) := by rw [cl', List.getD_eq_getElem?_getD, List.getElem?_eq_getElem hlen]; rfl
          obtain ⟨y, hy⟩ : ∃ y, y = (L k).getD j false := ⟨_, rfl⟩
          have HY := hide1 hy
          rw [← hy] at cy
          have hsz := hbq.size
          obtain ⟨ck2, hck2⟩ : ∃ c, c = cc k := ⟨_, rfl⟩
          rw [← hck2] at ck
          clear hbq hwr hbl hlen ea cl' hy hck2
          go_wp2_with (at_builtin; go_must (refine wpList_append_own _ rfl _ _ 25 rfl wo.heap.size 4 i4 (.bool false) 1 1 Try.underlying25 hi4 hy0 hy1 hy2 rfl (by decide) _ _ _ rfl (HOL.out.alloc _) ⟨wr.heap.size, 0, none⟩ 1 1 [.bool y] rfl rfl (cell_one_new _ _ _) (by simp [Value.oneCell']) (by unfold maxLen; omega) (by omega) (by simp; omega) ?_); intro v' w2 hown' hgrow _)
          go_roundw
          case rel =>
            have e9 : T.bools (crow L j k) ++ [.bool y] = T.bools (crow L j (k + 1)) := by rw [crow_succ, HY.out]; simp [T.bools]
            rw [e9] at hown'
            exact ⟨k + 1, by omega, by go_num, hown', (HBQ.out.alloc HBQ.out.size _).grown hgrow (by simp; omega) (fun b hb => (HOL.out.lt b hb).1)⟩
          case measure => simp [intOf]; omega
        · obtain rfl : k = 128 := by omega
          have hbl := T.own_bl HOL.out (crow_length L j 128)
          have kR := row16_any wr ic ia _ hbl
          unfold rw2 at kR
          rw [← HM.out j 0 (by omega), ← HM.out j 1 (by omega)] at kR
          have KR := hide1 kR
          have hwr := HBE.out.trans (hbq.mono HBE.out.size)
          have HO2 := hide1 (own_below HO.out hbq)
          have HW := hide1 hwr
          obtain ⟨m0, hm0⟩ : ∃ m, m = M j 0 := ⟨_, rfl⟩
          obtain ⟨m1, hm1⟩ : ∃ m, m = M j 1 := ⟨_, rfl⟩
          have HMM := hide1 (And.intro hm0 hm1)
          rw [← hm0, ← hm1] at KR
          clear hbl kR hwr hbq HOL HBQ HO hm0 hm1
          go_wp2_with fail
          go_at_call 52
          refine KR.out.mono ?_
          rintro e w3 ⟨rfl, hb3⟩
          have HO3 := hide1 ((own_below HO2.out hb3).alloc (.cells #[.int .u64 (m0 : Int), .int .u64 (m1 : Int)] 28))
          have HW3 := HW.out.trans (hb3.mono HW.out.size)
          have B3 := hide1 (HW3.alloc HW3.size (.cells #[.int .u64 (m0 : Int), .int .u64 (m1 : Int)] 28))
          have hsz3 := HW3.size
          clear hb3 HW3 KR HO2 HW
          go_wp2_with (at_builtin; go_must (refine wpList_append_lies _ rfl _ _ 45 rfl w.heap.size 28 i0 (.agg #[.int .u64 0, .int .u64 0]) 2 16 Try.underlying45 hi0 hz0 hz1 hz2 rfl (by decide) _ _ _ rfl HO3.out ⟨w3.heap.size, 0, none⟩ 1 1 [.int .u64 (m0 : Int), .int .u64 (m1 : Int)] rfl rfl (T.two_new _ _ _ _) (by simp [Value.oneCell']) (by decide) (by unfold maxLen; omega) (by omega) (by simp; omega) (w3.heap.size + 1) (by simp) ?_); intro g9 cap9 w9 hown9 hgrow9 hlies9 _)
          go_roundw
          case rel =>
            rw [HMM.out.1, HMM.out.2, ← rcs_succ] at hown9
            exact ⟨j + 1, by omega, by go_num, hown9, B3.out.grown hgrow9 (by simp; omega) (fun b hb => (HO3.out.lt b hb).1)⟩
          case measure => simp [intOf]; omega
    · obtain rfl : j = N := by omega
      have hlt' : ¬ (j : Int) < (j : Int) := by omega
      have HR := hide1 (own_rws HO.out HML.out)
      clear hbe
      go_wp2
      go_ret
      exact ⟨la, ⟨lc, rfl⟩, HR.out, HBE.out⟩
end Go.Proofs.Ytdahnbojnleboaa.I
