/- Bits laid into others, in memory: where they begin inside a word. -/
import Derived.Test.YtnpanmdajcbbfaaPh
namespace Go.Proofs.Ytnpanmdajcbbfaa
open Go.RowKit
set_option maxRecDepth 100000
attribute [local go_sem] not_any mf_any field_words

theorem Vc.set2 {b : Nat} {w : World} {n g k x y : Nat} {l : List Bool} (h : Vc b w n (some ⟨g, 0, none⟩) l) (l' : List Bool) (hl : l'.length = n) (hx : chunks 64 l' = ((chunks 64 l).set k x).set (k + 1) y) : Vc b ((w.setCell ⟨g, k, none⟩ (.int .u64 (x : Int))).setCell ⟨g, k + 1, none⟩ (.int .u64 (y : Int))) n (some ⟨g, 0, none⟩) l' := by
  obtain ⟨_, h | ⟨g', h1, h2, h3⟩⟩ := h
  · cases h.2
  · cases h1
    refine ⟨hl, .inr ⟨g, rfl, h2, ?_⟩⟩
    rw [hx]
    exact wset (w := w.setCell ⟨g, k, none⟩ (.int .u64 (x : Int))) (wset h3)

theorem grown_set (w : World) (g k : Nat) (v : Value) : w.grownBy (w.setCell ⟨g, k, none⟩ v).drew (some g) :=
  ⟨rfl, rfl, rfl, by simp, fun j _ hne => Below.heap_setCell _ _ _ _ (fun e => hne (by rw [e]))⟩

theorem grown_set0 (w : World) (g k : Nat) (v : Value) : w.grownBy (w.setCell ⟨g, k, none⟩ v) (some g) :=
  ⟨rfl, rfl, rfl, by simp, fun j _ hne => Below.heap_setCell _ _ _ _ (fun e => hne (by rw [e]))⟩

theorem lay_or {x y j : Nat} (hx : x < 18446744073709551616) : bits .or .u64 (x : Int) (IntKind.u64.wrap ((y : Int) * 2 ^ j)) = ((x ||| y * 2 ^ j % 18446744073709551616 : Nat) : Int) := by
  have e : IntKind.u64.wrap ((y : Int) * 2 ^ j) = ((y * 2 ^ j % 18446744073709551616 : Nat) : Int) := by
    rw [IntKind.wrap_u64, pow_cast, ← Int.natCast_mul]
    rfl
  rw [e, u64_or_nat _ _ hx (Nat.mod_lt _ (by omega))]

theorem lay_over {x y j : Nat} (hx : x < 18446744073709551616) (hy : y < 18446744073709551616) : bits .or .u64 (x : Int) ((y : Int) / 2 ^ j) = ((x ||| y / 2 ^ j : Nat) : Int) := by
  rw [pow_cast, ← Int.natCast_ediv, u64_or_nat _ _ hx (Nat.lt_of_le_of_lt (Nat.div_le_self _ _) hy)]

theorem over_shift (x j : Nat) : ((x : Int) / 2 ^ j != 0) = decide (x / 2 ^ j ≠ 0) := by
  rw [pow_cast, ← Int.natCast_ediv]
  by_cases h : x / 2 ^ j = 0
  · simp [h]
  · simp only [ne_eq, h, not_false_eq_true, decide_true, bne_iff_ne]
    omega

set_option maxHeartbeats 4000000 in
theorem lay_some (b b' : Nat) (w : World) (N n s q low : Nat) (av a : Option Addr) (L P : List Bool) (hv : Vc b w N av L) (hp : Vc b' w n a P) (hap : ∀ k, blk a = some k → k < b) (hN : N ≤ 4194304) (hsq : s = 64 * q + low) (hs : s + n ≤ N) (hlow : low < 64) (h0 : 0 < low) (hz : ∀ x, s ≤ x → L.getD x false = false) :
    Calls Try.prog 52 #[.agg #[.int .i64 N, .slice av (need N 64) (need N 64)], .int .i64 s, .agg #[.int .i64 n, .slice a (need n 64) (need n 64)]] w fun e w' => e = .returned (.tuple #[]) ∧ Vc b w' N av (laid L P N s (need n 64)) ∧ w.grownBy w' (blk av) := by
  have hqm : q < need N 64 := by rw [need64]; omega
  have hmm : need N 64 ≤ 65536 := by rw [need64]; omega
  have hnn : need n 64 ≤ 65536 := by rw [need64]; omega
  obtain ⟨g, rfl, hbg, hg, _⟩ := hv.cell hqm
  have hkq : (s : Int) / 64 = (q : Int) := by omega
  have hkr : s % 64 = low := by omega
  have hk0 : (0 : Int) ≤ (q : Int) := by omega
  have hk1 : (q : Int) < (need N 64 : Int) := by omega
  have hk2 : (q : Int) ≤ (need N 64 : Int) := by omega
  have hl0 : ((s : Int) % 64 == 0) = false := by simp; omega
  have hsh : (64 - (s : Int) % 64).toNat = 64 - low := by omega
  have hsl : ((s : Int) % 64).toNat = low := by omega
  have HV := hide1 hv
  have HP := hide1 hp
  have HZ := hide1 hz
  have HAP := hide1 hap
  have HS := hide1 hs
  have HGL := hide1 (lt_heap hg)
  have HSQ := hide1 hsq
  clear hz hp hg hv hap hsq hs
  go_enter Try.func52, Try.ntmps52
  go_wp2
  go_loopw [27] (fun i wr => ∃ k : Nat, k ≤ need n 64 ∧ i = .int .i64 k ∧ Vc b wr N (some ⟨g, 0, none⟩) (laid L P N s k) ∧ w.grownBy wr (some g)) (fun i _ => need n 64 - (intOf i).toNat)
  case atStart =>
    refine ⟨0, Nat.zero_le _, rfl, ?_, grown_trans (World.grownBy_alloc _ _ _) (World.grownBy_alloc _ _ _)⟩
    rw [laid_zero P HV.out.len HZ.out]
    exact (HV.out.alloc _).alloc _
  case round =>
    obtain ⟨k, hk, rfl, hV, hgr⟩ := hrel
    by_cases hlt : k < need n 64
    · obtain ⟨gp, rfl, hbp, hgp, hcp⟩ := HP.out.cell hlt
      have hne : gp ≠ g := by have := HAP.out gp rfl; omega
      have hcp' := hgr.cell hcp (fun e => hne (Option.some.inj e))
      have hqk : q + k < need N 64 := by have := HS.out; have := HSQ.out; rw [need64] at hlt ⊢; omega
      obtain ⟨_, e, _, hgg, hc1⟩ := hV.cell hqk
      cases e
      have hf1 := frozen_of_row wr g (q + k) _ _ hgg
      have hgl := lt_heap hgg
      have hx := chunk64_lt P k
      have hy := chunk64_lt (laid L P N s k) (q + k)
      have hk3 : (k : Int) < ((need N 64 - q : Nat) : Int) := by omega
      have hk4 : (k : Int) < (need n 64 : Int) := by omega
      have HV' := hide1 hV
      have HG' := hide1 hgr
      clear hV hgr hgp hcp hgg
      by_cases hov : chunk 64 P k / 2 ^ (64 - low) = 0
      · have hov' : ((chunk 64 P k : Int) / 2 ^ (64 - low) != 0) = false := by rw [over_shift]; simp [hov]
        go_wp2
        go_region
        all_goals
          go_wp2
          go_roundw
          case rel =>
            rw [lay_or hy]
            refine ⟨k + 1, by omega, by go_num, ?_, ?_⟩
            · refine (HV'.out.set (laid L P N s (k + 1)) (laid_length _ _ _ _ _) ?_).drew
              have hst := laid_step_none L P N q low k hlow (by rw [HP.out.len, ← HSQ.out]; exact HS.out) hov
              rw [← HSQ.out] at hst
              exact hst
            · exact grown_trans HG'.out (grown_set _ _ _ _)
          case measure => simp [intOf]; omega
      · have hov' : ((chunk 64 P k : Int) / 2 ^ (64 - low) != 0) = true := by rw [over_shift]; simp [hov]
        have hpl : q + (k + 1) < need N 64 := over_place P hlow (by rw [HP.out.len, ← HSQ.out]; exact HS.out) hov
        obtain ⟨_, e, _, hgg, hc2⟩ := HV'.out.cell hpl
        cases e
        have hf2 := frozen_of_row wr g (q + (k + 1)) _ _ hgg
        have hk5 : (k : Int) + 1 < ((need N 64 - q : Nat) : Int) := by omega
        have hy2 := chunk64_lt (laid L P N s k) (q + (k + 1))
        clear hgg
        go_wp2
        go_region
        all_goals
          go_wp2
          go_roundw
          case rel =>
            rw [lay_or hy, lay_over hy2 hx]
            refine ⟨k + 1, by omega, by go_num, ?_, ?_⟩
            · refine (HV'.out.set2 (laid L P N s (k + 1)) (laid_length _ _ _ _ _) ?_).drew
              have hst := laid_step L P N q low k hlow (by rw [HP.out.len, ← HSQ.out]; exact HS.out)
              rw [← HSQ.out] at hst
              exact hst
            · exact grown_trans HG'.out (grown_trans (grown_set0 _ _ _ _) (grown_set _ _ _ _))
          case measure => simp [intOf]; omega
    · obtain rfl : k = need n 64 := by omega
      have HV' := hide1 hV
      have HG' := hide1 hgr
      clear hV hgr
      go_wp2
      go_end0
      exact ⟨rfl, HV'.out, HG'.out⟩

/- bits laid into others -/
theorem lay_any (b b' : Nat) (w : World) (N n s : Nat) (av a : Option Addr) (L P : List Bool) (hv : Vc b w N av L) (hp : Vc b' w n a P) (hap : ∀ k, blk a = some k → k < b) (hN : N ≤ 4194304) (hs : s + n ≤ N) (hz : ∀ x, s ≤ x → L.getD x false = false) :
    Calls Try.prog 52 #[.agg #[.int .i64 N, .slice av (need N 64) (need N 64)], .int .i64 s, .agg #[.int .i64 n, .slice a (need n 64) (need n 64)]] w fun e w' => e = .returned (.tuple #[]) ∧ Vc b w' N av (laid L P N s (need n 64)) ∧ w.grownBy w' (blk av) := by
  by_cases h : s % 64 = 0
  · exact lay_zero b b' w N n s av a L P hv hp hN hs h hz
  · exact lay_some b b' w N n s (s / 64) (s % 64) av a L P hv hp hap hN (by omega) hs (by omega) (by omega) hz

end Go.Proofs.Ytnpanmdajcbbfaa
