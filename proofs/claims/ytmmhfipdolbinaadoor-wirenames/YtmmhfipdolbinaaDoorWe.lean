/- A writer's words and bits; all that was written. -/
import Derived.Test.YtmmhfipdolbinaaDoorWd
namespace Go.Proofs.YtmmhfipdolbinaaDoor
open Go.RowKit
set_option maxRecDepth 100000
attribute [local go_sem] not_any mf_any

/- words in so many bytes each -/
def wordsB (n : Nat) (ws : List Nat) : List Nat := ws.flatMap (fun x => fix x n)
theorem wordsB_snoc (n : Nat) (ws : List Nat) (x : Nat) : wordsB n (ws ++ [x]) = wordsB n ws ++ fix x n := by simp [wordsB]
theorem wordsB_length (n : Nat) : ∀ ws, (wordsB n ws).length = ws.length * n
  | [] => by simp [wordsB]
  | x :: ws => by
    have h : wordsB n (x :: ws) = fix x n ++ wordsB n ws := by simp [wordsB]
    rw [h, List.length_append, fix_length, wordsB_length n ws, List.length_cons, Nat.add_mul]; omega
theorem wordsB_lt (n : Nat) : ∀ ws, Lt 256 (wordsB n ws)
  | [] => fun x hx => by cases hx
  | x :: ws => by
    have h : wordsB n (x :: ws) = fix x n ++ wordsB n ws := by simp [wordsB]
    rw [h]
    exact (fix_lt n x).append (wordsB_lt n ws)

set_option maxHeartbeats 400000 in
theorem wWords_any (g : Nat) (w : World) (L : List Nat) (wd m c : Nat) (a : Option Addr) (ws : List Nat) (h : Wr w g L) (hL : L.length ≤ 1000000000) (h1 : 1 ≤ wd) (h2 : wd ≤ 64) (hm : m ≤ 100000) (hl : Nl w m a ws) :
    Calls Tryd.prog 35 #[.pointer (some ⟨g, 0, none⟩), .int .i64 (wd : Int), .slice a m c] w fun e w' => e = .returned (.tuple #[]) ∧ Wr w' g (L ++ (fix m 4 ++ wordsB ((wd + 7) / 8) ws)) ∧ But g w w' := by
  obtain ⟨n, hn⟩ : ∃ n, n = (wd + 7) / 8 := ⟨_, rfl⟩
  have hn8 : n ≤ 8 := by omega
  have k0 := fun w => hide1 (isWidth_any (wd : Int) w)
  rw [show (decide (1 ≤ (wd : Int)) && decide ((wd : Int) ≤ 64)) = true by simp; omega] at k0
  have k1 := fun w => hide1 (bytesFor_any wd w (by omega))
  rw [← hn] at k1 ⊢
  obtain ⟨i0, hi, hz0, hz1, hz2⟩ := info_parts info5
  have hmn : m * n ≤ 800000 := Nat.le_trans (Nat.mul_le_mul hm hn8) (by omega)
  obtain ⟨mn, hmn'⟩ : ∃ mn, mn = m * n := ⟨_, rfl⟩
  rw [← hmn'] at hmn
  have emn : (m : Int) * (n : Int) = (mn : Int) := by rw [hmn', Int.natCast_mul]
  have emn2 : IntKind.i64.wrap ((m : Int) * (n : Int)) = (mn : Int) := by rw [emn, IntKind.wrap_i64]; omega
  have emn3 : wrap64 ((m : Int) * (n : Int)) = (mn : Int) := by rw [emn]; unfold wrap64; omega
  have hb1 : i0.bytes * mn ≤ 281474976710656 := by rw [hz2, Nat.one_mul]; exact Nat.le_trans hmn (by decide)
  have hb2 : mn ≤ maxLen := Nat.le_trans hmn (by decide)
  obtain ⟨w9, hmk, hrow0, hg0⟩ := run_make_own (P := Tryd.prog) w w.heap.size 108 5 i0 (.int .u8 0) 1 Tryd.underlying108 hi hz0 hz1 .i64 .i64 mn hb1 hb2 (Nat.le_refl _)
  have HL := hide1 hl
  have HW := hide1 h
  have HR := hide1 hrow0
  have HG := hide1 hg0
  have HMN := hide1 hmn'
  have h1' : 1 ≤ (wd : Int) := by omega
  clear h hl hrow0 hg0 hmn' emn hn
  go_enter Tryd.func35, Tryd.ntmps35
  go_wp2_with fail
  refine (k0 _).out.mono ?_
  rintro e w1 ⟨rfl, hw1⟩
  cases hw1
  clear k0
  go_wp2_with fail
  refine (k1 _).out.mono ?_
  rintro e w1 ⟨rfl, hw1⟩
  cases hw1
  clear k1
  go_wp2
  clear hmk
  go_loopw [7, 22] (fun ov i wr => ∃ k : Nat, k ≤ m ∧ i = .int .i64 k ∧ wr.ownsRow w.heap.size 5 1 ov (k * n) (u8s (wordsB n (ws.take k))) ∧ Below w.heap.size w wr) (fun _ i _ => m - (intOf i).toNat)
  case atStart =>
    refine ⟨0, Nat.zero_le _, rfl, ?_, (Below.refl _ _).grown HG.out (Nat.le_refl _) (fun b hb => by cases hb)⟩
    rw [Nat.zero_mul]
    exact HR.out
  case round =>
    obtain ⟨k, hk, rfl, hrow, hB⟩ := hrel
    obtain ⟨la, lc, rfl⟩ := row_form hrow
    by_cases hlt : k < m
    · obtain ⟨x, hx⟩ : ∃ x, ws[k]? = some x := ⟨_, List.getElem?_eq_getElem (by rw [HL.out.len]; exact hlt)⟩
      obtain ⟨gl, o, rfl, hcl⟩ := (HL.out.below hB (Nat.le_refl _)).at' k x hx
      have hkn : k * n ≤ 800000 := Nat.le_trans (Nat.mul_le_mul hk hn8) (by omega)
      have hlen : (wordsB n (ws.take k)).length = k * n := by rw [wordsB_length, List.length_take, HL.out.len, Nat.min_eq_left hk]
      have kA := hide1 (appendNumber_any w.heap.size wr _ (k * n) x n _ hrow hlen hB.size hn8 (Nat.le_trans hkn (by decide)))
      have HX : Shy (wordsB n (ws.take (k + 1)) = wordsB n (ws.take k) ++ fix x n) := ⟨by rw [List.take_add_one, hx]; exact wordsB_snoc _ _ _⟩
      have HBB := hide1 hB
      clear hx hrow hkn hlen hB
      go_wp2_with (go_at_call 59; refine kA.out.mono ?_; rintro e w2 ⟨v2, rfl, hrow2, hb2⟩)
      go_roundw
      case rel =>
        refine ⟨k + 1, by omega, by go_num, ?_, HBB.out.trans hb2⟩
        rw [HX.out, Nat.succ_mul]
        exact hrow2
      case measure => simp [intOf]; omega
    · obtain rfl : k = m := by omega
      rw [List.take_of_length_le (by rw [HL.out.len]; omega)] at hrow
      have hlen : (wordsB n ws).length = k * n := by rw [wordsB_length, HL.out.len]
      have hcv := conv_own hlen hrow
      have hsz : (txt (wordsB n ws)).size ≤ 800000 := by rw [txt_size (wordsB_lt n ws), hlen, ← HMN.out]; exact hmn
      have kL := hide1 (list_any g wr L k (txt (wordsB n ws)) (HW.out.below hB) hL (by omega) (Nat.le_trans hsz (by decide)))
      rw [nums_txt (wordsB_lt n ws)] at kL
      have HBB := hide1 hB
      clear hrow hlen hsz hB
      go_wp2_with (go_at_call 56; refine kL.out.mono ?_; rintro e w2 ⟨rfl, hw2, hbut⟩)
      go_end0
      exact ⟨rfl, hw2, (But.of_below HBB.out).trans hbut⟩
end Go.Proofs.YtmmhfipdolbinaaDoor
