/- Seeds in memory; delta and chosen. -/
import Derived.Test.YtdahnbojnleboaaJ20
import Derived.Test.YtdahnbojnleboaaJ21
import Derived.Deep.MidRow
namespace Go.Proofs.Ytdahnbojnleboaa
open Go.RowKit Pg
set_option maxRecDepth 100000
attribute [local go_sem] not_any

theorem hi23 {l : List Nat} (h : l.length = 32) : (Try.prog.info? 23).map (·.size) = some (u8s l).toArray.size := by rw [show (u8s l).toArray.size = 32 by simp [u8s, h]]; kernel_rfl
theorem hi23' {l : List Nat} (h : l.length = 32) : (Try.prog.info? 23).map (·.size) = some (u8s l).length := by rw [show (u8s l).length = 32 by simp [u8s, h]]; kernel_rfl
theorem splice2 (p q x y : Value) : splice [p, q] 0 [x, y] = [x, y] := rfl

theorem words2 (kl : List Nat) (w : World) (hk : kl.length = 32) (bk : Lt 256 kl) : Calls Try.prog 57 #[.agg (u8s kl).toArray, .int .u32 9, .int .i64 0, .int .i64 2] w (WPost w [wd kl 9 0, wd kl 9 1] 0) := by
  have ew : wrd kl 9 0 2 = [wd kl 9 0, wd kl 9 1] := by simp [wrd, List.range_succ]
  rw [← ew]
  exact words_yes kl 9 0 2 w hk bk (by omega) (by omega) (by omega)
theorem copy2 (w1 : World) (b g o c x y : Nat) (r2 : w1.heap[b]? = some (row2 0 0)) (c0 : w1.cell? ⟨g, o + 0, none⟩ = some (.int .u64 (x : Int))) (c1 : w1.cell? ⟨g, o + 1, none⟩ = some (.int .u64 (y : Int))) :
    (Builtin.copy_ #[38, 38] 3 #[.slice (some ⟨b, 0, none⟩) 2 2, .slice (some ⟨g, o, none⟩) 2 c]).run Try.prog w1 = .ok (.int .i64 2) (w1.setRow b #[.int .u64 (x : Int), .int .u64 (y : Int)]) := by
  rw [run_copy_row (P := Try.prog) w1 38 38 3 24 b 0 2 2 ⟨g, o, none⟩ 2 c #[.int .u64 0, .int .u64 0] 28 [.int .u64 (x : Int), .int .u64 (y : Int)] Try.underlying38 (by kernel_rfl) r2 rfl
    (fun j v hv => by
      rw [Addr.add_mid]
      match j with
      | 0 => cases hv; exact c0
      | 1 => cases hv; exact c1
      | j + 2 => simp at hv) (by simp) (fun v hv => by simp at hv; rcases hv with rfl | rfl <;> rfl)]
  rfl

set_option maxHeartbeats 1000000 in
theorem delta_any (kl : List Nat) (w : World) (hk : kl.length = 32) (bk : Lt 256 kl) :
    Calls Try.prog 39 #[arr8 kl] w fun e w' => e = .returned (rw2 (wd kl 9 0) (wd kl 9 1)) ∧ Below w.heap.size w w' := by
  have kw := fun w => hide1 (words2 kl w hk bk)
  generalize wd kl 9 0 = x at *
  generalize wd kl 9 1 = y at *
  have hi := hi23 hk
  clear hk bk
  unfold arr8 rw2
  go_enter Try.func39, Try.ntmps39
  go_upto_region 2 with (fail)
  generalize hX : World.alloc (World.alloc (World.alloc w _) _) _ = X
  obtain ⟨x0, x1, x2, xb, xs⟩ := three_at hX
  have X0 := hide1 x0
  have X1 := hide1 x1
  have X2 := hide1 x2
  have XB := hide1 xb
  have XS := hide1 xs
  clear hX x0 x1 x2 xb xs
  go_wp2_with (first | (refine wpList_load_row rfl 23 (.tmp 1) rfl w.heap.size rfl 23 (u8s kl).toArray (0, 0) _ X0.out Try.underlying23 rfl hi ?_) | fail)
  go_at_call 57
  refine (kw _).out.mono ?_
  rintro e w1 ⟨a, m, c, rfl, hnl, hlow, hb1⟩
  obtain rfl : 2 = m := hnl.len
  obtain ⟨g, o, rfl, c0⟩ := hnl.at' 0 x rfl
  obtain ⟨g', o', e', c1⟩ := hnl.at' 1 y rfl
  cases e'
  have r1 : w1.heap[w.heap.size + 1]? = some (row2 0 0) := (hb1.block _ (lt_heap X1.out)).trans X1.out
  have r2 : w1.heap[w.heap.size + 1 + 1]? = some (row2 0 0) := (hb1.block _ (lt_heap X2.out)).trans X2.out
  have hcp' := copy2 w1 (w.heap.size + 1 + 1) g o c x y r2 c0 c1
  have hs2 := setRow_heap w1 (w.heap.size + 1 + 1) _ #[.int .u64 (x : Int), .int .u64 (y : Int)] _ _ r2
  have hs1 := (setRow_other w1 (w.heap.size + 1 + 1) (w.heap.size + 1) #[.int .u64 (x : Int), .int .u64 (y : Int)] (by omega)).trans r1
  have hB : Below w.heap.size w (w1.setRow (w.heap.size + 1 + 1) #[.int .u64 (x : Int), .int .u64 (y : Int)]) := Below.setRow' (XB.out.trans (hb1.mono XB.out.size)) (by omega) _
  generalize World.setRow w1 _ _ = Y at *
  have Y1 := hide1 hs1
  have Y2 := hide1 hs2
  have YB := hide1 hB
  clear hs1 hs2 hB r1 r2 c0 c1 hnl hlow hb1 kw X0 X1 X2 XB XS
  go_wp2_with (first | (refine wpList_load_row rfl 28 (.tmp 3) rfl (w.heap.size + 1 + 1) rfl 28 #[.int .u64 (x : Int), .int .u64 (y : Int)] (0, 0) _ Y2.out Try.underlying28 rfl (hi26 _ _) ?_) | (refine wpList_store_own rfl 28 (.tmp 2) (.tmp 16) rfl (w.heap.size + 1) rfl #[.int .u64 (x : Int), .int .u64 (y : Int)] rfl 28 _ Y1.out (hi26 _ _) (by simp) (by simp [Value.oneCell']) ?_) | fail)
  have hfin := setRow_heap Y (w.heap.size + 1) _ #[.int .u64 (x : Int), .int .u64 (y : Int)] _ _ Y1.out
  have hfb := Below.setRow' YB.out (show w.heap.size ≤ w.heap.size + 1 by omega) #[.int .u64 (x : Int), .int .u64 (y : Int)]
  refine ret_row Try.results39 (w.heap.size + 1) 28 #[.int .u64 (x : Int), .int .u64 (y : Int)] rfl hfin Try.underlying28 (hi26 _ _) rfl ⟨rfl, hfb⟩

theorem chosen_any (t : Bool) (k l : List Nat) (w : World) (hk : k.length = 32) (hl : l.length = 32) :
    Calls Try.prog 40 #[.bool t, arr8 k, arr8 l] w fun e w' => e = .returned (arr8 (if t then l else k)) ∧ Below w.heap.size w w' := by
  have hi1 := hi23 hk
  have hi2 := hi23 hl
  have hz1 : Shy ((u8s (zeros 32)).toArray.size = (u8s k).toArray.size) := ⟨by simp [u8s, zeros, hk]⟩
  have hz2 : Shy ((u8s (zeros 32)).toArray.size = (u8s l).toArray.size) := ⟨by simp [u8s, zeros, hl]⟩
  clear hk hl
  unfold arr8
  cases t
  · rw [if_neg (by decide)]
    go_enter Try.func40, Try.ntmps40
    go_upto_region 1 with (fail)
    generalize hX : World.alloc (World.alloc (World.alloc w _) _) _ = X
    obtain ⟨x0, x1, x2, xb, xs⟩ := three_at hX
    have X0 := hide1 x0
    have X2 : Hid (X.heap[w.heap.size + 2]? = some (row8 23 (zeros 32))) := x2
    have XB := hide1 xb
    clear hX x0 x1 x2 xb xs
    go_wp2_with (first | (refine wpList_load_row rfl 23 (.tmp 4) rfl w.heap.size rfl 23 (u8s k).toArray (0, 0) _ X0.out Try.underlying23 rfl hi1 ?_) | (refine wpList_store_own rfl 23 (.tmp 6) (.tmp 9) rfl (w.heap.size + 2) rfl (u8s k).toArray rfl 23 _ X2.out hi1 hz1.out (all_one (u8s_one _)) ?_) | fail)
    exact ret_row Try.results40 (w.heap.size + 2) 23 (u8s k).toArray rfl (setRow_heap _ _ _ _ _ _ X2.out) Try.underlying23 hi1 rfl ⟨rfl, Below.setRow' XB.out (by omega) _⟩
  · rw [if_pos rfl]
    go_enter Try.func40, Try.ntmps40
    go_upto_region 1 with (fail)
    generalize hX : World.alloc (World.alloc (World.alloc w _) _) _ = X
    obtain ⟨x0, x1, x2, xb, xs⟩ := three_at hX
    have X1 := hide1 x1
    have X2 : Hid (X.heap[w.heap.size + 2]? = some (row8 23 (zeros 32))) := x2
    have XB := hide1 xb
    clear hX x0 x1 x2 xb xs
    go_wp2_with (first | (refine wpList_load_row rfl 23 (.tmp 5) rfl (w.heap.size + 1) rfl 23 (u8s l).toArray (0, 0) _ X1.out Try.underlying23 rfl hi2 ?_) | (refine wpList_store_own rfl 23 (.tmp 6) (.tmp 8) rfl (w.heap.size + 2) rfl (u8s l).toArray rfl 23 _ X2.out hi2 hz2.out (all_one (u8s_one _)) ?_) | fail)
    exact ret_row Try.results40 (w.heap.size + 2) 23 (u8s l).toArray rfl (setRow_heap _ _ _ _ _ _ X2.out) Try.underlying23 hi2 rfl ⟨rfl, Below.setRow' XB.out (by omega) _⟩
end Go.Proofs.Ytdahnbojnleboaa
