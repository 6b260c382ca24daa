/- Bits laid into others, in memory: where they begin at a word. -/
import Derived.Test.YtnpanmdajcbbfaaPg
namespace Go.Proofs.Ytnpanmdajcbbfaa
open Go.RowKit
set_option maxRecDepth 100000
attribute [local go_sem] not_any mf_any field_words

theorem grown_trans {a b c : World} {row : Option Nat} (h : a.grownBy b row) (h' : b.grownBy c row) : a.grownBy c row :=
  ⟨h'.os.trans h.os, h'.tape.trans h.tape, h'.output.trans h.output, Nat.le_trans h.size h'.size, fun k hk hne => (h'.block k (Nat.lt_of_lt_of_le hk h.size) hne).trans (h.block k hk hne)⟩

theorem copy_at {b b' : Nat} {W : World} {N n q g : Nat} {a : Option Addr} {L P : List Bool} (hv : Vc b W N (some ⟨g, 0, none⟩) L) (hp : Vc b' W n a P) (hs : 64 * q + n ≤ N) (hz : ∀ x, 64 * q ≤ x → L.getD x false = false) :
    ∃ W', (Builtin.copy_ #[23, 23] 3 #[.slice (some ⟨g, q, none⟩) (need N 64 - q) (need N 64 - q), .slice a (need n 64) (need n 64)]).run Try.prog W = .ok (goInt (need n 64)) W' ∧ Vc b W' N (some ⟨g, 0, none⟩) (laid L P N (64 * q) (need n 64)) ∧ W.grownBy W' (some g) := by
  by_cases h0 : n = 0
  · subst h0
    refine ⟨W, run_copy_none (P := Try.prog) W 23 23 3 55 _ a _ _ _ _ Try.underlying23 size55 (Nat.zero_min _), ?_, World.grownBy.refl _ _⟩
    rw [show need 0 64 = 0 from rfl, laid_zero P hv.len hz]
    exact hv
  · have hq : q + need n 64 ≤ need N 64 := by rw [need64, need64]; omega
    have hpos : 0 < need n 64 := by rw [need64]; omega
    obtain ⟨gs, rfl, _, hgs, _⟩ := hp.cell hpos
    obtain ⟨g', e, hb, hg, _⟩ := hv.cell (show 0 < need N 64 by omega)
    cases e
    have hc := run_copy_row (P := Try.prog) W 23 23 3 55 g q (need N 64 - q) (need N 64 - q) ⟨gs, 0, none⟩ (need n 64) (need n 64) (u64s (chunks 64 L)).toArray 55 (u64s (chunks 64 P)) Try.underlying23 size55 hg
      (by simp only [u64s, List.length_map, chunks_length, hp.len]; exact (Nat.min_eq_left (by omega)).symm)
      (by
        intro j v hvj
        rw [addr_add, Nat.zero_add, cell_of_row W gs j _ 55 (0, 0) hgs]
        simpa using hvj)
      (by simp [u64s, chunks_length, hp.len, hv.len]; omega) (u64s_one _)
    have hl1 : (u64s (chunks 64 P)).length = need n 64 := by simp [u64s, chunks_length, hp.len]
    rw [hl1] at hc
    refine ⟨_, hc, ⟨laid_length _ _ _ _ _, .inr ⟨g, rfl, hb, ?_⟩⟩, ⟨rfl, rfl, rfl, by simp, fun k _ hk => setRow_other W g k _ (fun e => hk (by rw [e]))⟩⟩
    rw [setRow_heap W g _ _ _ _ hg, ← hp.len, ← laid_copy P hv.len hz (by rw [hp.len]; exact hs)]
    unfold wrow
    congr 2
    simp [u64s]

set_option maxHeartbeats 2000000 in
theorem lay_zero (b b' : Nat) (w : World) (N n s : Nat) (av a : Option Addr) (L P : List Bool) (hv : Vc b w N av L) (hp : Vc b' w n a P) (hN : N ≤ 4194304) (hs : s + n ≤ N) (h64 : s % 64 = 0) (hz : ∀ x, s ≤ x → L.getD x false = false) :
    Calls Try.prog 52 #[.agg #[.int .i64 N, .slice av (need N 64) (need N 64)], .int .i64 s, .agg #[.int .i64 n, .slice a (need n 64) (need n 64)]] w fun e w' => e = .returned (.tuple #[]) ∧ Vc b w' N av (laid L P N s (need n 64)) ∧ w.grownBy w' (blk av) := by
  have hm0 : need 0 64 = 0 := rfl
  have hlow : (s : Int) % 64 = 0 := by omega
  obtain ⟨hl, ⟨h0, rfl⟩ | ⟨g, rfl, hbg, hg⟩⟩ := hv
  · subst h0
    obtain rfl : s = 0 := by omega
    obtain rfl : n = 0 := by omega
    have hcp : ∀ W, (Builtin.copy_ #[23, 23] 3 #[.slice none 0 0, .slice a 0 0]).run Try.prog W = .ok (goInt 0) W := fun W => copy_nothing none a
    have HP := hide1 hp
    have HL := hide1 hl
    rw [hm0]
    clear hz hp hl
    go_enter Try.func52, Try.ntmps52
    go_wp2
    refine bodyPost_ret (results_none rfl _ _ _) rfl ?_
    exact ⟨rfl, ⟨laid_length _ _ _ _ _, .inl ⟨rfl, rfl⟩⟩, grown_trans (World.grownBy_alloc _ _ _) (World.grownBy_alloc _ _ _)⟩
  · obtain ⟨q, rfl⟩ : ∃ q, s = 64 * q := ⟨s / 64, by omega⟩
    have hqm : q ≤ need N 64 := by rw [need64]; omega
    have hmm : need N 64 ≤ 65536 := by rw [need64]; omega
    have hV : Vc b w N (some ⟨g, 0, none⟩) L := ⟨hl, .inr ⟨g, rfl, hbg, hg⟩⟩
    have hkq : ((64 * q : Nat) : Int) / 64 = (q : Int) := by omega
    have hkr : ((64 * q : Nat) : Int) % 64 = 0 := by omega
    have hk0 : (0 : Int) ≤ (q : Int) := by omega
    have HV := hide1 hV
    have HP := hide1 hp
    have HZ := hide1 hz
    have HS := hide1 hs
    clear hz hp hl hg hV hlow
    by_cases hqe : q < need N 64
    · obtain ⟨W', hcp, hV', hgr⟩ := copy_at ((HV.out.alloc (.cells #[.int .i64 N, .slice (some ⟨g, 0, none⟩) (need N 64) (need N 64)] 26)).alloc (.cells #[.int .i64 n, .slice a (need n 64) (need n 64)] 26)) ((HP.out.alloc _).alloc _) HS.out HZ.out
      have HV' := hide1 hV'
      have HGR := hide1 hgr
      have hk1 : (q : Int) < (need N 64 : Int) := by omega
      have hk2 : (q : Int) ≤ (need N 64 : Int) := by omega
      clear hV' hgr
      go_enter Try.func52, Try.ntmps52
      go_wp2
      refine bodyPost_ret (results_none rfl _ _ _) rfl ?_
      exact ⟨rfl, HV'.out, grown_trans (grown_trans (World.grownBy_alloc _ _ _) (World.grownBy_alloc _ _ _)) HGR.out⟩
    · have hk1 : ((64 * q : Nat) : Int) / 64 = (need N 64 : Int) := by omega
      obtain rfl : n = 0 := by rw [need64] at hqe; omega
      have hcp : ∀ W (d : Option Addr) (x y : Nat), (Builtin.copy_ #[23, 23] 3 #[.slice d x y, .slice a 0 0]).run Try.prog W = .ok (goInt 0) W := fun W d x y => run_copy_none (P := Try.prog) W 23 23 3 55 d a x y 0 0 Try.underlying23 size55 (Nat.zero_min _)
      rw [hm0]
      clear hkq hqe
      go_enter Try.func52, Try.ntmps52
      go_wp2
      refine bodyPost_ret (results_none rfl _ _ _) rfl ?_
      rw [laid_zero P HV.out.len HZ.out]
      exact ⟨rfl, (HV.out.alloc _).alloc _, grown_trans (World.grownBy_alloc _ _ _) (World.grownBy_alloc _ _ _)⟩

end Go.Proofs.Ytnpanmdajcbbfaa
