/- Bits of a stream: the document's. -/
import Derived.Test.YtdahnbojnleboaaJ23
import Derived.Test.YtdahnbojnleboaaJ11
namespace Go.Proofs.Ytdahnbojnleboaa.Pg
open Go.RowKit
set_option maxRecDepth 100000
attribute [local go_sem] not_any

theorem own_bl {w : World} {base n cap : Nat} {e : TypeId} {a : Option Addr} {l : List Bool} (hn : l.length = n) (h : w.ownsRow base e 1 (.slice a n cap) n (V.bools l)) : V.Bl w n a l := by
  rcases h.2 with ⟨hv, _⟩ | ⟨g, cap', cur, hv, hb, _⟩
  · cases hv
    exact ⟨hn, fun j x hj => by rw [List.getElem?_eq_none (by omega)] at hj; cases hj⟩
  · cases hv
    refine ⟨hn, fun j x hj => ⟨g, 0, rfl, ?_⟩⟩
    have := h.cells (g := g) rfl j (.bool x) (by simp [V.bools, hj])
    rwa [Addr.add_lit] at this
theorem info4 : (Try.prog.info? 4).map (fun i => (i.zero, i.size, i.bytes)) = some (some (.bool false), 1, 1) := by kernel_rfl
theorem bools_one (l : List Bool) : ∀ v ∈ V.bools l, v.oneCell' = true := by
  intro v hv
  simp only [V.bools, List.mem_map] at hv
  obtain ⟨n, _, rfl⟩ := hv
  rfl
theorem bl_nil (w : World) : V.Bl w 0 none [] := ⟨rfl, fun k x h => by simp at h⟩

/- truths as an answer -/
def LPost (w : World) (bl : List Bool) (code : Int) (e : Ending) (w' : World) : Prop :=
  ∃ a m c, e = .returned (.tuple #[.slice a m c, .int .i64 code]) ∧ V.Bl w' m a bl ∧ Below w.heap.size w w' ∧ ∀ b, a.map (·.block) = some b → w.heap.size ≤ b ∧ b < w'.heap.size

set_option maxHeartbeats 4000000 in
theorem rbits_yes (kl : List Nat) (x F N : Nat) (w : World) (hk : kl.length = 32) (bk : Lt 256 kl) (hx : x < 4294967296) (hN : N ≤ 65536) (hF : F ≤ 1073741824) :
    Calls Try.prog 30 #[arr8 kl, .int .u32 (x : Int), .int .i64 (F : Int), .int .i64 (N : Int)] w (LPost w (bts kl x F N) 0) := by
  obtain ⟨i0, hi, hz0, hz1, hz2⟩ := info_of info4
  obtain ⟨s, hs⟩ : ∃ v, v = F % 8 := ⟨_, rfl⟩
  obtain ⟨c, hc⟩ : ∃ v, v = F / 8 := ⟨_, rfl⟩
  obtain ⟨T, hT⟩ : ∃ v, v = s + N := ⟨_, rfl⟩
  obtain ⟨T7, hT7⟩ : ∃ v, v = T + 7 := ⟨_, rfl⟩
  obtain ⟨B, hB⟩ : ∃ v, v = T7 / 8 := ⟨_, rfl⟩
  have kb := fun w => hide1 (rbytes_yes kl x c B w hk bk hx (by omega) (by omega))
  have HT : Shy (nums (txt (byt kl x c B)) = byt kl x c B) := ⟨nums_txt (byt_lt _ _ _ _)⟩
  have hts : (txt (byt kl x c B)).size = B := by rw [nums_size HT.out, byt_length]
  have HLt : Shy (Lt 256 (byt kl x c B)) := ⟨byt_lt _ _ _ _⟩
  have HBit : Shy (∀ k, k < N → (at0 (byt kl x c B) ((s + k) / 8)).testBit ((s + k) % 8) = sbit kl x (F + k)) := ⟨fun k hkN => by
    rw [byt_at (by omega), sbit, show (F + k) / 8 = c + (s + k) / 8 by omega, show (F + k) % 8 = (s + k) % 8 by omega]⟩
  have HSuc : Shy (∀ k, bts kl x F (k + 1) = bts kl x F k ++ [sbit kl x (F + k)]) := ⟨bts_succ kl x F⟩
  have HLn : Shy (∀ k, (bts kl x F k).length = k) := ⟨bts_length kl x F⟩
  have HZ : Shy (bts kl x F 0 = []) := ⟨rfl⟩
  have Hz : Hid ((u8s kl).toArray.size = 32) := by show _ = _; simp [u8s, hk]
  generalize txt (byt kl x c B) = tp at *
  generalize byt kl x c B = lb at *
  have h1 : decide ((F : Int) < 0) = false := by simp
  have h2 : decide ((N : Int) < 0) = false := by simp
  have h3 : decide ((65536 : Int) < (N : Int)) = false := by rw [decide_eq_false_iff_not]; omega
  have h4 : decide ((1073741824 : Int) < (F : Int)) = false := by rw [decide_eq_false_iff_not]; omega
  have es : (F : Int) % 8 = (s : Int) := by omega
  have ec : (F : Int) / 8 = (c : Int) := by omega
  have eT : (s : Int) + (N : Int) = (T : Int) := by omega
  have eT7 : (T : Int) + 7 = (T7 : Int) := by omega
  have eB : (T7 : Int) / 8 = (B : Int) := by omega
  have b1 : (c : Int) ≤ 134217728 := by omega
  have b2 : (T : Int) ≤ 65600 := by omega
  have b4 : (T7 : Int) ≤ 65700 := by omega
  have b5 : (B : Int) ≤ 8200 := by omega
  have b7 : (s : Int) < 8 := by omega
  have HD : Shy (T = s + N ∧ T + 7 = T7 ∧ B = T7 / 8 ∧ N ≤ 65536 ∧ s < 8) := ⟨⟨hT, hT7.symm, hB, hN, by omega⟩⟩
  clear hs hc hT hT7 hB hk bk hx hN hF
  unfold arr8 at kb ⊢
  go_enter Try.func30, Try.ntmps30
  go_upto_region 3 with (fail)
  generalize hX : World.alloc w _ = X
  have x0 : X.heap[w.heap.size]? = some (row8 23 kl) := by rw [← hX]; exact heap_alloc_new _ _
  have xb : Below w.heap.size w X := by rw [← hX]; exact (Below.refl _ _).alloc (Nat.le_refl _) _
  have X0 := hide1 x0
  have XB := hide1 xb
  clear hX x0 xb
  go_wp2_with (first | (refine wpList_load_row rfl 23 (.tmp 4) rfl w.heap.size rfl 23 (u8s kl).toArray (0, 0) _ X0.out Try.underlying23 rfl (by rw [Hz.out]; kernel_rfl) ?_) | fail)
  go_at_call 51
  refine (kb _).out.mono ?_
  rintro e w1 ⟨rfl, hb1⟩
  have B1 := hide1 (XB.out.trans (hb1.mono XB.out.size))
  clear hb1 kb X0 XB
  go_wp2
  rw [es]
  go_loopw [12, 13] (fun v12 v13 wr => ∃ k i : Nat, k ≤ N ∧ i = s + k ∧ v13 = .int .i64 i ∧ (∃ a c, v12 = .slice a k c) ∧ wr.ownsRow w.heap.size 4 1 v12 k (V.bools (bts kl x F k)) ∧ Below w.heap.size w wr) (fun _ v13 _ => T - (intOf v13).toNat)
  case atStart => exact ⟨0, s, Nat.zero_le _, rfl, rfl, ⟨none, 0, rfl⟩, by rw [HZ.out]; exact World.ownsRow_nil _ _ _ _, B1.out⟩
  case round =>
    obtain ⟨k, i, hk, hik, rfl, ⟨a12, c12, rfl⟩, hro, hbe⟩ := hrel
    by_cases hlt : k < N
    · have hlti : (i : Int) < (T : Int) := by have := HD.out; omega
      have hbit := HBit.out k hlt
      have hS := HSuc.out k
      rw [← hik] at hbit
      obtain ⟨q, hq⟩ : ∃ v, v = i / 8 := ⟨_, rfl⟩
      obtain ⟨m, hm⟩ : ∃ v, v = i % 8 := ⟨_, rfl⟩
      have hix := fun w => run_index tp q (by have := HD.out; omega) w
      rw [HT.out] at hix
      have bb := HLt.out.at (by omega) q
      rw [← hq, ← hm] at hbit
      generalize at0 lb q = b at *
      generalize sbit kl x (F + k) = t at *
      obtain ⟨d, hd⟩ : ∃ v, v = b / 2 ^ m := ⟨_, rfl⟩
      obtain ⟨r, hr⟩ : ∃ v, v = d % 2 := ⟨_, rfl⟩
      have e1 : (b : Int) / 2 ^ m = (d : Int) := by rw [hd, Int.natCast_ediv, Int.natCast_pow]; rfl
      have e2 : (d : Int) % 2 = (r : Int) := by omega
      have e2' : Int.tmod (d : Int) 2 = (r : Int) := by rw [Int.tmod_eq_emod_of_nonneg (by omega), e2]
      have e3 : ((r : Int) == 1) = t := by
        rw [← hbit, Nat.testBit_eq_decide_div_mod_eq, ← hd, ← hr]
        by_cases h : r = 1
        · subst h; rfl
        · rw [decide_eq_false h, beq_eq_false_iff_ne]; omega
      have e3' : (r == 1) = t := by
        rw [← e3]
        by_cases h : r = 1
        · subst h; rfl
        · rw [beq_eq_false_iff_ne.2 h, eq_comm, beq_eq_false_iff_ne]; omega
      have eq1 : (i : Int) / 8 = (q : Int) := by omega
      have em : (i : Int) % 8 = (m : Int) := by omega
      have bq : (q : Int) < (B : Int) := by have := HD.out; omega
      have bm : (m : Int) < 8 := by omega
      have bi : (i : Int) ≤ 65600 := by omega
      have HS : Shy (bts kl x F (k + 1) = bts kl x F k ++ [t]) := ⟨hS⟩
      have HI : Shy (i = s + k) := ⟨hik⟩
      have HRO := hide1 hro
      have HE := hide1 hbe
      have hk6 : k ≤ 65536 := by have := HD.out; omega
      clear hbit hS hro hbe hq hm hd hr hik
      go_wp2_with (first
        | (at_builtin; go_must (refine wpList_append_lies _ rfl (.tmp 55) (.tmp 66) 25 rfl w.heap.size 4 i0 (.bool false) 1 1 Try.underlying25 hi hz0 hz1 hz2 rfl (by decide) (.slice a12 k c12) k (V.bools (bts kl x F k)) rfl (HRO.out.alloc _) ⟨wr.heap.size, 0, none⟩ 1 1 (V.bools [t]) rfl rfl (World.news_of_block (heap_alloc_new wr (V.brow [t]))) (bools_one _) (by omega) (by unfold maxLen; omega) (by omega) (by have := HE.out.size; rw [size_alloc]; omega) _ rfl ?_; intro g8 cap8 w8 ro8 gr8 wh8 lt8))
        | fail)
      rw [show V.bools (bts kl x F k) ++ V.bools [t] = V.bools (bts kl x F (k + 1)) by rw [HS.out]; simp [V.bools]] at ro8
      have hb8 : Below w.heap.size w w8 := (HE.out.alloc HE.out.size _).grown gr8 (by rw [size_alloc]; have := HE.out.size; omega) (fun k hk => (HRO.out.lt k hk).1)
      have RO8 := hide1 ro8
      have HB8 := hide1 hb8
      clear ro8 hb8 gr8 wh8 lt8
      go_wp2
      go_roundw
      case rel => exact ⟨k + 1, i + 1, by omega, by have := HI.out; omega, by go_num, ⟨_, _, rfl⟩, RO8.out, HB8.out⟩
      case measure => simp [intOf]; have := HI.out; have := HD.out; omega
    · obtain rfl : k = N := by omega
      have hnl := own_bl (HLn.out k) hro
      have hlti : ¬ (i : Int) < (T : Int) := by have := HD.out; omega
      have HNL := hide1 hnl
      have HFAR : Hid (∀ b, a12.map (·.block) = some b → w.heap.size ≤ b ∧ b < wr.heap.size) := fun b hb => by
        cases a12 with
        | none => cases hb
        | some ad => cases hb; exact hro.lt ad.block rfl
      have HE := hide1 hbe
      clear hro hbe hnl
      go_wp2
      go_ret2
      exact ⟨_, _, _, rfl, HNL.out, HE.out, HFAR.out⟩

theorem rbits_no (kl : List Nat) (x : Int) (f n : Int) (w : World) (h : f < 0 ∨ n < 0 ∨ 65536 < n ∨ 1073741824 < f) :
    Calls Try.prog 30 #[arr8 kl, .int .u32 x, .int .i64 f, .int .i64 n] w fun e w' => LPost w [] 2 e w' := by
  have hB := fun (o : Obj) => hide1 ((Below.refl w.heap.size w).alloc (Nat.le_refl _) o)
  unfold arr8
  by_cases h1 : f < 0
  · clear h
    go_enter Try.func30, Try.ntmps30
    go_wp2
    go_ret2
    exact ⟨_, _, _, rfl, bl_nil _, (hB _).out, fun b hb => by cases hb⟩
  · have h1' : decide (f < 0) = false := by rw [decide_eq_false_iff_not]; exact h1
    by_cases h2 : n < 0
    · clear h
      go_enter Try.func30, Try.ntmps30
      go_wp2
      go_ret2
      exact ⟨_, _, _, rfl, bl_nil _, (hB _).out, fun b hb => by cases hb⟩
    · have h2' : decide (n < 0) = false := by rw [decide_eq_false_iff_not]; exact h2
      by_cases h3 : 65536 < n
      · clear h
        go_enter Try.func30, Try.ntmps30
        go_wp2
        go_ret2
        exact ⟨_, _, _, rfl, bl_nil _, (hB _).out, fun b hb => by cases hb⟩
      · have h3' : decide (65536 < n) = false := by rw [decide_eq_false_iff_not]; exact h3
        have h4 : 1073741824 < f := by omega
        clear h
        go_enter Try.func30, Try.ntmps30
        go_wp2
        go_ret2
        exact ⟨_, _, _, rfl, bl_nil _, (hB _).out, fun b hb => by cases hb⟩

theorem rbits_any (kl : List Nat) (x : Nat) (f n : Int) (w : World) (hk : kl.length = 32) (bk : Lt 256 kl) (hx : x < 4294967296) :
    Calls Try.prog 30 #[arr8 kl, .int .u32 (x : Int), .int .i64 f, .int .i64 n] w (LPost w (tL kl x f n) (tC f n)) := by
  by_cases h : f < 0 ∨ n < 0 ∨ 65536 < n ∨ 1073741824 < f
  · rw [tL_two (tC_no h), tC_no h]
    exact rbits_no kl x f n w h
  · obtain ⟨F, rfl⟩ := Int.eq_ofNat_of_zero_le (show 0 ≤ f by omega)
    obtain ⟨N, rfl⟩ := Int.eq_ofNat_of_zero_le (show 0 ≤ n by omega)
    rw [tC_yes (by omega) (by omega), tL_yes (by omega) (by omega)]
    exact rbits_yes kl x F N w hk bk hx (by omega) (by omega)
end Go.Proofs.Ytdahnbojnleboaa.Pg
