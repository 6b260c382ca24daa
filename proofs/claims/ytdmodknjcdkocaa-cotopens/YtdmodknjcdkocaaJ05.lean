/- A block of a grid: block. A grid laid: lay; and Block. -/
import Derived.Test.YtdmodknjcdkocaaJ04
import Derived.Stop.BytesEq
namespace Go.Proofs.Ytdmodknjcdkocaa.Pg
open Go.RowKit
set_option maxRecDepth 100000
attribute [local go_sem] not_any

/- the k-th word of a block -/
def sumW (l : List Nat) (k : Nat) : Nat := (at0 (rounds l 10) k + at0 l k) % 4294967296
def blkT (l : List Nat) : Nat → List Nat
  | 0 => zeros 64
  | k + 1 => setB (blkT l k) (4 * k) (sumW l k) 4
def blkP (l : List Nat) : List Nat := blkT l 16
theorem blkT_length (l : List Nat) : ∀ k, (blkT l k).length = 64
  | 0 => zeros_length 64
  | k + 1 => by rw [blkT, setB_length, blkT_length l k]
theorem blkT_lt (l : List Nat) : ∀ k, Lt 256 (blkT l k)
  | 0 => lt_replicate (by omega) 64
  | k + 1 => setB_lt (blkT_lt l k) _ _ _

set_option maxHeartbeats 4000000 in
theorem block_any (l : List Nat) (g : Nat) (t : TypeId) (w : World) (hr : w.heap[g]? = some (row32 t l)) (hl : l.length = 16) (ht : Lt 4294967296 l) :
    Calls Try.prog 65 #[.pointer (some ⟨g, 0, none⟩)] w fun e w' => e = .returned (arr8 (blkP l)) ∧ Below w.heap.size w w' := by
  have HR := hide1 hr
  have Hl := hide1 hl
  have HT := hide1 ht
  have Hz : Hid ((u32s l).toArray.size = 16) := by show _ = _; simp [u32s, hl]
  have hg : g < w.heap.size := lt_heap hr
  have HG := hide1 hg
  have HA : Hid (∀ o, (w.alloc o).heap[g]? = some (row32 t l)) := fun o => (heap_alloc_old w o hg).trans hr
  have HN := hide1 (heap_alloc2_new w (row8 99 (zeros 64)) (row32 97 (zeros 16)))
  clear hr hl ht hg
  go_enter Try.func65, Try.ntmps65
  go_wp2_with (first
    | (refine wpList_load_row rfl 97 (.tmp 7) rfl g rfl t (u32s l).toArray (0, 0) _ (HA.out _) Try.underlying97 rfl (by rw [Hz.out]; kernel_rfl) ?_)
    | (refine wpList_store_own rfl 97 (.tmp 3) (.tmp 8) rfl (w.heap.size + 1) rfl (u32s l).toArray rfl 97 _ HN.out (by rw [Hz.out]; kernel_rfl) (by rw [Hz.out]; simp [u32s, zeros]) (all_one (u32s_one _)) ?_)
    | fail)
  generalize hW : World.setRow _ _ _ = W
  have w1 : W.heap[w.heap.size + 1]? = some (row32 97 l) := by rw [← hW]; exact setRow_heap _ _ _ _ _ _ HN.out
  have w0 : W.heap[w.heap.size]? = some (row8 99 (zeros 64)) := by rw [← hW]; exact (setRow_other _ _ _ _ (by omega)).trans (heap_alloc2_old w (row8 99 (zeros 64)) (row32 97 (zeros 16)))
  have wb : Below w.heap.size w W := by
    rw [← hW]
    exact Below.setRow' (((Below.refl _ _).alloc (Nat.le_refl _) _).alloc (by simp) _) (by omega) _
  have W1 := hide1 w1
  have W0 := hide1 w0
  have WB := hide1 wb
  clear hW w1 w0 wb HA HN
  go_loopw [9] (fun i wr => ∃ k : Nat, k ≤ 10 ∧ i = .int .i64 k ∧ wr.heap[w.heap.size + 1]? = some (row32 97 (rounds l k)) ∧ Below (w.heap.size + 1) W wr) (fun i _ => 10 - (intOf i).toNat)
  case atStart => exact ⟨0, Nat.zero_le _, rfl, W1.out, Below.refl _ _⟩
  case round =>
    obtain ⟨k, hk, rfl, hrow, hbe⟩ := hrel
    by_cases hlt : k < 10
    · have hC := hide1 (turnAll_any (rounds l k) (w.heap.size + 1) 97 wr hrow (by rw [rounds_length, Hl.out]) (rounds_lt HT.out k))
      have HRR := hide1 hrow
      have HE := hide1 hbe
      have HS : Shy (rounds l (k + 1) = twice (rounds l k)) := ⟨by rw [rounds]⟩
      clear hrow hbe
      go_wp2_with (go_at_call 68; refine hC.out.mono ?_; rintro e w1 ⟨rfl, q, hw1⟩; have HW1 := hide1 hw1; clear hw1)
      go_roundw
      case rel =>
        refine ⟨k + 1, by omega, by go_num, ?_, ?_⟩
        · rw [HW1.out, HS.out]
          exact setRow_heap _ _ _ _ _ _ HRR.out
        · rw [HW1.out]
          exact below_drewN' (Below.setRow' HE.out (Nat.le_refl _) _) q
      case measure => simp [intOf]; omega
    · have : k = 10 := by omega
      subst this
      obtain ⟨V, hV⟩ : ∃ V, V = wr := ⟨_, rfl⟩
      subst hV
      have HV := hide1 hrow
      have HB := hide1 hbe
      have hsz : w.heap.size + 1 < V.heap.size := lt_heap hrow
      clear hrow hbe
      rw [show ((10 : Nat) : Int) = 10 from rfl]
      go_upto_block 2 with (fail)
      generalize hX : World.alloc _ _ = X
      have x2 : X.heap[V.heap.size]? = some (row8 99 (blkT l 0)) := by rw [← hX]; exact heap_alloc_new _ _
      have xb : Below V.heap.size V X := by rw [← hX]; exact (Below.refl _ _).alloc (Nat.le_refl _) _
      have x1 : X.heap[w.heap.size + 1]? = some (row32 97 (rounds l 10)) := (xb.block _ hsz).trans HV.out
      have x0 : X.heap[w.heap.size]? = some (row8 99 (zeros 64)) := (xb.block _ (by omega)).trans ((HB.out.block _ (by omega)).trans W0.out)
      have xg : X.heap[g]? = some (row32 t l) := (xb.block _ (by have := HG.out; omega)).trans ((HB.out.block _ (by have := HG.out; omega)).trans ((WB.out.block _ HG.out).trans HR.out))
      have xw : Below w.heap.size w X := (WB.out.trans (HB.out.mono (by omega))).trans (xb.mono (by omega))
      generalize V.heap.size = bk at *
      have X2 := hide1 x2
      have X1 := hide1 x1
      have X0 := hide1 x0
      have XG := hide1 xg
      have XW := hide1 xw
      have Hsz := hide1 hsz
      clear hX x2 x1 x0 xg xw xb hsz
      go_wp2
      go_loopw [13] (fun i wr => ∃ k : Nat, k ≤ 16 ∧ i = .int .i64 k ∧ wr.heap[bk]? = some (row8 99 (blkT l k)) ∧ Below bk X wr) (fun i _ => 16 - (intOf i).toNat)
      case atStart => exact ⟨0, Nat.zero_le _, rfl, X2.out, Below.refl _ _⟩
      case round =>
        obtain ⟨k, hk, rfl, hrow, hbe⟩ := hrel
        by_cases hlt : k < 16
        · have cv := cell32 ((hbe.block _ Hsz.out).trans X1.out) (j := k) (by rw [rounds_length, Hl.out]; exact hlt)
          have cu := cell32 ((hbe.block _ (by have := HG.out; have := Hsz.out; omega)).trans XG.out) (j := k) (by rw [Hl.out]; exact hlt)
          obtain ⟨p, hp⟩ : ∃ v, v = 4 * k := ⟨_, rfl⟩
          have HC := hide1 (put_any (blkT l k) (sumW l k) bk p (64 - p) (64 - p) 99 wr.drew hrow (by omega) (by rw [blkT_length]; omega))
          have HS : Shy (blkT l (k + 1) = setB (blkT l k) p (sumW l k) 4) := ⟨by rw [blkT, hp]⟩
          have ex : IntKind.u32.wrap ((at0 (rounds l 10) k : Nat) + (at0 l k : Nat) : Int) = (sumW l k : Nat) := wrap32_add _ _
          generalize sumW l k = x at *
          generalize at0 (rounds l 10) k = v at *
          generalize at0 l k = u at *
          have ep : 4 * (k : Int) = (p : Int) := by omega
          have ep' : IntKind.i64.wrap (p : Int) = (p : Int) := by rw [IntKind.wrap_i64]; omega
          have hsl := fun w' => run_arrl 99 64 Try.underlying99 bk p w' (by omega)
          have hki : (k : Int) < 16 := by omega
          have HRR := hide1 hrow
          have HE := hide1 hbe
          clear hrow hbe hp
          go_upto_region 10 with (fail)
          refine region_f (F := [12]) (S := fun w' => w'.cell? ⟨w.heap.size + 1, k, none⟩ = some (.int .u32 (v : Int)) ∧ w'.cell? ⟨g, k, none⟩ = some (.int .u32 (u : Int))) (by kernel_rfl) ⟨cv, cu⟩ (fun hS => ?_)
          refine take_p 0 16 (.int .i64 (k : Int)) rfl rfl (by kernel_rfl) (by kernel_rfl) (by kernel_rfl) (fun _ _ _ h => h) rfl (fun w => by go_simp) ?_
          try simp only [List.setIfInBounds_toArray, List.set_cons_zero, List.set_cons_succ]
          refine take_p 1 17 (.int .i64 (p : Int)) rfl rfl (by kernel_rfl) (by kernel_rfl) (by kernel_rfl) (fun _ _ _ h => h) rfl (fun w => by go_simp) ?_
          try simp only [List.setIfInBounds_toArray, List.set_cons_zero, List.set_cons_succ]
          refine take_p 2 18 (.slice (some ⟨bk, p, none⟩) (64 - p) (64 - p)) rfl rfl (by kernel_rfl) (by kernel_rfl) (by kernel_rfl) (fun _ _ _ h => h) rfl (fun w => by go_simp) ?_
          try simp only [List.setIfInBounds_toArray, List.set_cons_zero, List.set_cons_succ]
          refine take_p 3 19 (.int .i64 (k : Int)) rfl rfl (by kernel_rfl) (by kernel_rfl) (by kernel_rfl) (fun _ _ _ h => h) rfl (fun w => by go_simp) ?_
          try simp only [List.setIfInBounds_toArray, List.set_cons_zero, List.set_cons_succ]
          refine take_p 4 20 (.pointer (some ⟨w.heap.size + 1, k, none⟩)) rfl rfl (by kernel_rfl) (by kernel_rfl) (by kernel_rfl) (fun _ _ _ h => h) rfl (fun w => by go_simp) ?_
          try simp only [List.setIfInBounds_toArray, List.set_cons_zero, List.set_cons_succ]
          refine take_f 5 21 (.int .u32 (v : Int)) [11, 12] rfl rfl (by kernel_rfl) (by kernel_rfl) (by kernel_rfl) (by kernel_rfl) (by kernel_rfl) (by kernel_rfl) (fun _ _ _ h => h) rfl (fun w hSw => by have h1 := hSw.1; clear hSw; go_simp) hS ?_
          try simp only [List.setIfInBounds_toArray, List.set_cons_zero, List.set_cons_succ]
          refine take_p 6 22 (.pointer (some ⟨g, 0, none⟩)) rfl rfl (by kernel_rfl) (by kernel_rfl) (by kernel_rfl) (fun _ _ _ h => h) rfl (fun w => by go_simp) ?_
          try simp only [List.setIfInBounds_toArray, List.set_cons_zero, List.set_cons_succ]
          refine take_p 7 23 (.int .i64 (k : Int)) rfl rfl (by kernel_rfl) (by kernel_rfl) (by kernel_rfl) (fun _ _ _ h => h) rfl (fun w => by go_simp) ?_
          try simp only [List.setIfInBounds_toArray, List.set_cons_zero, List.set_cons_succ]
          refine take_p 8 24 (.pointer (some ⟨g, 0, none⟩)) rfl rfl (by kernel_rfl) (by kernel_rfl) (by kernel_rfl) (fun _ _ _ h => h) rfl (fun w => by go_simp) ?_
          try simp only [List.setIfInBounds_toArray, List.set_cons_zero, List.set_cons_succ]
          refine take_p 9 25 (.pointer (some ⟨g, k, none⟩)) rfl rfl (by kernel_rfl) (by kernel_rfl) (by kernel_rfl) (fun _ _ _ h => h) rfl (fun w => by go_simp) ?_
          try simp only [List.setIfInBounds_toArray, List.set_cons_zero, List.set_cons_succ]
          refine take_f 10 26 (.int .u32 (u : Int)) [11, 12] rfl rfl (by kernel_rfl) (by kernel_rfl) (by kernel_rfl) (by kernel_rfl) (by kernel_rfl) (by kernel_rfl) (fun _ _ _ h => h) rfl (fun w hSw => by have h1 := hSw.2; clear hSw; go_simp) hS ?_
          try simp only [List.setIfInBounds_toArray, List.set_cons_zero, List.set_cons_succ]
          refine take_p 11 27 (.int .u32 (x : Int)) rfl rfl (by kernel_rfl) (by kernel_rfl) (by kernel_rfl) (fun _ _ _ h => h) rfl (fun w => by go_simp) ?_
          try simp only [List.setIfInBounds_toArray, List.set_cons_zero, List.set_cons_succ]
          refine ready_f 12 (o := { dst := some 28, op := Op.call { callee := Callee.value (Operand.func 60), args := #[Operand.tmp 18, Operand.tmp 27], argTypes := #[88, 72] }, type := 0, pos := "grid.go:58", after := #[{ on := 2, ground := Ground.data }, { on := 11, ground := Ground.data }], guard := none }) (by kernel_rfl) rfl (fun K hK => ?_)
          go_simp
          refine HC.out.mono ?_
          rintro e w1 ⟨rfl, hw1⟩
          refine hK.out _ _ (fun h => absurd (by decide) h) ?_
          clear hK K
          try simp only [Act.put, List.setIfInBounds_toArray, List.set_cons_zero, List.set_cons_succ]
          refine done_f (by kernel_rfl) ?_ _
          have HW1 := hide1 hw1
          clear hw1 HC hS
          go_wp2
          go_roundw
          case rel =>
            refine ⟨k + 1, by omega, by go_num, ?_, ?_⟩
            · rw [HW1.out, HS.out]
              exact setRow_heap _ _ _ _ _ _ HRR.out
            · rw [HW1.out]
              exact Below.setRow' HE.out.drew (Nat.le_refl _) _
          case measure => simp [intOf]; omega
        · have : k = 16 := by omega
          subst this
          have hr0 : wr.heap[w.heap.size]? = some (row8 99 (zeros 64)) := (hbe.block _ (by have := Hsz.out; omega)).trans X0.out
          have HRR := hide1 hrow
          have HR0 := hide1 hr0
          have HE := hide1 hbe
          have Hy : Hid ((u8s (blkT l 16)).toArray.size = 64) := by show _ = _; simp [u8s, blkT_length]
          clear hrow hr0 hbe
          go_wp2_with (first | (refine wpList_load_row rfl 99 (.tmp 4) rfl bk rfl 99 (u8s (blkT l 16)).toArray (0, 0) _ HRR.out Try.underlying99 rfl (by rw [Hy.out]; kernel_rfl) ?_) | (refine wpList_store_own rfl 99 (.tmp 2) (.tmp 30) rfl w.heap.size rfl (u8s (blkT l 16)).toArray rfl 99 _ HR0.out (by rw [Hy.out]; kernel_rfl) (by rw [Hy.out]; simp [u8s, zeros]) (all_one (u8s_one _)) ?_))
          refine ret_row Try.results65 w.heap.size 99 (u8s (blkT l 16)).toArray rfl (setRow_heap _ _ _ _ _ _ HR0.out) Try.underlying99 (by rw [Hy.out]; kernel_rfl) rfl ⟨rfl, ?_⟩
          exact Below.setRow' (XW.out.trans (HE.out.mono (by have := Hsz.out; omega))) (Nat.le_refl _) _
end Go.Proofs.Ytdmodknjcdkocaa.Pg

namespace Go.Proofs.Ytdmodknjcdkocaa.Pg
open Go.RowKit
set_option maxRecDepth 100000
attribute [local go_sem] not_any

structure Three (w W : World) (A B C : Obj) : Prop where
  size : W.heap.size = w.heap.size + 1 + 1 + 1
  a : W.heap[w.heap.size]? = some A
  b : W.heap[w.heap.size + 1]? = some B
  c : W.heap[w.heap.size + 1 + 1]? = some C
  below : Below w.heap.size w W

theorem three (w : World) (A B C : Obj) : Three w (((w.alloc A).alloc B).alloc C) A B C :=
  ⟨by simp, by rw [heap_alloc_old _ _ (by simp; omega), heap_alloc2_old], by rw [heap_alloc_old _ _ (by simp), heap_alloc2_new],
   by have := heap_alloc_new ((w.alloc A).alloc B) C; simpa using this,
   (((Below.refl _ _).alloc (Nat.le_refl _) _).alloc (by simp) _).alloc (by simp; omega) _⟩

def FOUR : List Nat := [1634760805, 857760878, 2036477234, 1797285236]
def GRID0 : List Nat := FOUR ++ zeros 12
def layP (kl n : List Nat) (c : Nat) : List Nat := putW ((putW GRID0 4 kl 8).set 12 c) 13 n 3
theorem grid0_length : GRID0.length = 16 := rfl
theorem grid0_lt : Lt 4294967296 GRID0 := by unfold Lt; decide
theorem layP_length (kl n : List Nat) (c : Nat) : (layP kl n c).length = 16 := by rw [layP, putW_length, List.length_set, putW_length, grid0_length]
theorem layP_lt {kl n : List Nat} {c : Nat} (hk : Lt 256 kl) (hn : Lt 256 n) (hc : c < 4294967296) : Lt 4294967296 (layP kl n c) :=
  putW_lt ((putW_lt grid0_lt _ hk _).set hc _) _ hn _

set_option maxHeartbeats 4000000 in
theorem lay_any (kl : List Nat) (s : ByteArray) (c : Nat) (w : World) (hk : kl.length = 32) (bk : Lt 256 kl) (hs : s.size = 12) :
    Calls Try.prog 64 #[arr8 kl, .string s, .int .u32 (c : Int)] w fun e w' => e = .returned (arr32 (layP kl (nums s) c)) ∧ Below w.heap.size w w' := by
  have Hk := hide1 hk
  have HK : Shy (nums (txt kl) = kl) := ⟨nums_txt bk⟩
  have htz : Shy ((txt kl).size = 32) := ⟨by rw [nums_size HK.out, hk]⟩
  have HS : Shy (s.size = 12) := ⟨hs⟩
  have HL : Shy (layP kl (nums s) c = putW ((putW GRID0 4 kl 8).set 12 c) 13 (nums s) 3) := ⟨rfl⟩
  have HLn : Shy ((layP kl (nums s) c).length = 16) := ⟨layP_length _ _ _⟩
  have F := three w (row8 46 kl) (row32 97 (zeros 16)) (row32 97 (zeros 16))
  have HF := hide1 F.c
  clear F hk bk hs
  unfold arr8
  go_enter Try.func64, Try.ntmps64
  go_upto_region 2 with (first | (refine wpList_store_own rfl 97 (.tmp 7) (.tmp 8) rfl (w.heap.size + 1 + 1) rfl (u32s GRID0).toArray rfl 97 _ HF.out (by kernel_rfl) (by simp [u32s, zeros, GRID0, FOUR]) (all_one (u32s_one _)) ?_) | fail)
  generalize hW : World.setRow _ _ _ = W
  have F := three w (row8 46 kl) (row32 97 (zeros 16)) (row32 97 (zeros 16))
  have w2 : W.heap[w.heap.size + 1 + 1]? = some (row32 97 GRID0) := by rw [← hW]; exact setRow_heap _ _ _ _ _ _ HF.out
  have w1 : W.heap[w.heap.size + 1]? = some (row32 97 (zeros 16)) := by rw [← hW]; exact (setRow_other _ _ _ _ (by omega)).trans F.b
  have w0 : W.heap[w.heap.size]? = some (row8 46 kl) := by rw [← hW]; exact (setRow_other _ _ _ _ (by omega)).trans F.a
  have wb : Below w.heap.size w W := by rw [← hW]; exact Below.setRow' F.below (by omega) _
  have hcv := conv_row (cap := 32) w0
  rw [Hk.out] at hcv
  have W2 := hide1 w2
  have W1 := hide1 w1
  have WB := hide1 wb
  clear hW w2 w1 w0 wb HF F
  obtain ⟨tx, htx⟩ : ∃ tx, tx = txt kl := ⟨_, rfl⟩
  rw [← htx] at hcv
  have HK2 : Shy (nums tx = kl) := ⟨by rw [htx]; exact HK.out⟩
  have HT2 : Shy (tx.size = 32) := ⟨by rw [htx]; exact htz.out⟩
  clear htx HK htz
  go_wp2_with fail
  go_at_call 67
  refine (gput_any GRID0 (w.heap.size + 1 + 1) 4 8 tx 97 W W2.out grid0_length HT2.out (by omega)).mono ?_
  rintro e w3 ⟨rfl, q3, hw3⟩
  rw [HK2.out] at hw3
  have h3 : w3.heap[w.heap.size + 1 + 1]? = some (row32 97 (putW GRID0 4 kl 8)) := by rw [hw3]; exact setRow_heap _ _ _ _ _ _ W2.out
  have b3 : Below (w.heap.size + 1 + 1) W w3 := by rw [hw3]; exact below_drewN' (Below.setRow' (Below.refl _ _) (Nat.le_refl _) _) q3
  have c3 := cell32 h3 (j := 12) (by rw [putW_length, grid0_length]; omega)
  have f3 := frozen_of_row w3 (w.heap.size + 1 + 1) 12 _ _ h3
  have H3 := hide1 h3
  have B3 := hide1 b3
  clear hw3 h3 b3 hcv
  go_wp2_with fail
  go_at_call 67
  generalize hX : World.setCell _ _ _ = X
  have x1 : X.heap[w.heap.size + 1 + 1]? = some (row32 97 ((putW GRID0 4 kl 8).set 12 c)) := by rw [← hX]; exact set32 H3.out
  have xb : Below (w.heap.size + 1 + 1) W X := by rw [← hX]; exact B3.out.setCell (p := ⟨w.heap.size + 1 + 1, 12, none⟩) (Nat.le_refl _) _
  clear hX c3 f3 H3 B3
  refine (gput_any _ (w.heap.size + 1 + 1) 13 3 s 97 X x1 (by rw [List.length_set, putW_length, grid0_length]) HS.out (by omega)).mono ?_
  rintro e w4 ⟨rfl, q4, hw4⟩
  have h4 : w4.heap[w.heap.size + 1 + 1]? = some (row32 97 (layP kl (nums s) c)) := by rw [hw4, HL.out]; exact setRow_heap _ _ _ _ _ _ x1
  have b4 : Below (w.heap.size + 1 + 1) W w4 := by rw [hw4]; exact below_drewN' (Below.setRow' xb (Nat.le_refl _) _) q4
  have h5 : w4.heap[w.heap.size + 1]? = some (row32 97 (zeros 16)) := (b4.block _ (by omega)).trans W1.out
  have H4 := hide1 h4
  have H5 := hide1 h5
  have B4 := hide1 (WB.out.trans (b4.mono (by omega)))
  clear hw4 h4 h5 b4 x1 xb HL
  have Hz : Hid ((u32s (layP kl (nums s) c)).toArray.size = 16) := by show _ = _; simp [u32s, layP_length]
  go_wp2_with (first | (refine wpList_load_row rfl 97 (.tmp 7) rfl (w.heap.size + 1 + 1) rfl 97 (u32s (layP kl (nums s) c)).toArray (0, 0) _ H4.out Try.underlying97 rfl (by rw [Hz.out]; kernel_rfl) ?_) | (refine wpList_store_own rfl 97 (.tmp 6) (.tmp 16) rfl (w.heap.size + 1) rfl (u32s (layP kl (nums s) c)).toArray rfl 97 _ H5.out (by rw [Hz.out]; kernel_rfl) (by rw [Hz.out]; simp [u32s, zeros]) (all_one (u32s_one _)) ?_))
  refine ret_row Try.results64 (w.heap.size + 1) 97 (u32s (layP kl (nums s) c)).toArray rfl (setRow_heap _ _ _ _ _ _ H5.out) Try.underlying97 (by rw [Hz.out]; kernel_rfl) rfl ⟨rfl, ?_⟩
  exact Below.setRow' B4.out (by omega) _

/- the bytes of a block -/
def blockP (kl n : List Nat) (c : Nat) : List Nat := blkP (layP kl n c)
theorem blockP_length (kl n : List Nat) (c : Nat) : (blockP kl n c).length = 64 := by rw [blockP, blkP, blkT_length]
theorem blockP_lt (kl n : List Nat) (c : Nat) : Lt 256 (blockP kl n c) := by
  rw [blockP, blkP]
  exact blkT_lt _ _

end Go.Proofs.Ytdmodknjcdkocaa.Pg
