/- The words of all rounds: spreadOut. -/
import Derived.Test.YtjcfllidandeiaaDoorC
import Derived.Laws.CopyOwn
import Derived.Deep.RegionHeld3
namespace Go.Proofs.YtjcfllidandeiaaDoor
open Go.RowKit
set_option maxRecDepth 100000
attribute [local go_sem] not_any

theorem size30 : (Tryd.prog.info? 30).map (·.size) = some 1 := by kernel_rfl
theorem size5 : (Tryd.prog.info? 5).map (·.size) = some 1 := by kernel_rfl

def zeros (n : Nat) : List Nat := List.replicate n 0
theorem zeros_length (n : Nat) : (zeros n).length = n := by simp [zeros]

theorem splice32 {l b : List Nat} (_h : b.length ≤ l.length) : splice (u32s l) 0 (u32s b) = u32s (b ++ l.drop b.length) := by
  simp [splice, u32s]

theorem gs0_int {x : Nat} (hx : x < 4294967296) : bits .xor .u32 (bits .xor .u32 (rot 7 x : Nat) (rot 18 x : Nat)) ((x : Int) / 8) = (gs0 x : Nat) := by
  rw [show (x : Int) / 8 = ((x / 8 : Nat) : Int) by omega, xor3_int (rot_lt hx) (rot_lt hx) (div_lt' hx)]
  rfl
theorem gs1_int {x : Nat} (hx : x < 4294967296) : bits .xor .u32 (bits .xor .u32 (rot 17 x : Nat) (rot 19 x : Nat)) ((x : Int) / 1024) = (gs1 x : Nat) := by
  rw [show (x : Int) / 1024 = ((x / 1024 : Nat) : Int) by omega, xor3_int (rot_lt hx) (rot_lt hx) (div_lt' hx)]
  rfl
theorem next_int {p x r y : Nat} (hx : x < 4294967296) (hy : y < 4294967296) :
    IntKind.u32.wrap (IntKind.u32.wrap (IntKind.u32.wrap ((p : Int) + bits .xor .u32 (bits .xor .u32 (rot 7 x : Nat) (rot 18 x : Nat)) ((x : Int) / 8)) + (r : Int)) + bits .xor .u32 (bits .xor .u32 (rot 17 y : Nat) (rot 19 y : Nat)) ((y : Int) / 1024)) = (((p + gs0 x + r + gs1 y) % 4294967296 : Nat) : Int) := by
  rw [gs0_int hx, gs1_int hy, wrap32_add, wrap32_add, wrap32_add]
  congr 1
  omega

theorem sched_set {b : List Nat} {n k : Nat} (hl : (sched b n).length = k) (hn : n < 48) : (sched b n ++ zeros (48 - n)).set k (nextW (sched b n)) = sched b (n + 1) ++ zeros (48 - (n + 1)) := by
  rw [List.set_append_right _ _ (by omega), hl, Nat.sub_self, show 48 - n = (48 - (n + 1)) + 1 by omega, zeros, List.replicate_succ, List.set_cons_zero]
  simp [sched, zeros]

set_option maxHeartbeats 4000000 in
theorem spread_any (b : List Nat) (w : World) (hb : b.length = 16) (bb : Lt 4294967296 b) :
    Calls Tryd.prog 31 #[arr32 b] w fun e w' => e = .returned (arr32 (sched b 48)) ∧ Below w.heap.size w w' := by
  have HB := hide1 bb
  have Hb := hide1 hb
  clear bb hb
  unfold arr32
  go_enter Tryd.func31, Tryd.ntmps31
  go_wp2
  generalize hW : World.alloc (World.alloc (World.alloc w _) _) _ = W
  have F := three w (row32 54 b) (row32 61 (zeros 64)) (row32 61 (zeros 64))
  have F' : Three w W (row32 54 b) (row32 61 (zeros 64)) (row32 61 (zeros 64)) := by rw [← hW]; exact F
  clear F hW
  have HF := hide1 F'
  clear F'
  go_region_law (refine step_copy_splice rfl (.tmp 7) (.tmp 8) 45 45 rfl 30 Tryd.underlying45 size30 (some ⟨w.heap.size + 1 + 1, 0, none⟩) (some ⟨w.heap.size, 0, none⟩) 64 64 16 16 rfl rfl (w.heap.size + 1 + 1) 0 (u32s (zeros 64)) 61 HF.out.c (u32s b) (by simp [u32s, Hb.out]) (fun _ => ⟨rfl, _, rfl, fun j v hj => by rw [Addr.add_lit, Nat.zero_add]; exact (cell_of_row _ _ j _ 54 (0, 0) HF.out.a).trans (by simpa using hj)⟩) (by simp [u32s, zeros, Hb.out]) (u32s_one _) (w.heap.size + 1 + 1) W (Below.refl _ _).drew (Nat.le_refl _) ?_; intro w4 hg4 hb4)
  have h0 : w4.heap[w.heap.size + 1 + 1]? = some (row32 61 (sched b 0 ++ zeros 48)) := by
    rw [hg4.out, splice32 (by simp [zeros, Hb.out])]
    simp [row32, sched, zeros, Hb.out]
  have H0 := hide1 h0
  clear hg4 h0
  go_wp2
  go_loopw [4] (fun i wr => ∃ n : Nat, n ≤ 48 ∧ i = .int .i64 (16 + n : Nat) ∧ wr.heap[w.heap.size + 1 + 1]? = some (row32 61 (sched b n ++ zeros (48 - n))) ∧ Below (w.heap.size + 1 + 1) W wr) (fun i _ => 64 - (intOf i).toNat)
  case atStart => exact ⟨0, Nat.zero_le _, rfl, H0.out, hb4⟩
  case round =>
    obtain ⟨n, hn, rfl, hrow, hbe⟩ := hrel
    clear H0 hb4
    by_cases hlt : n < 48
    · have hl := sched_length b n
      rw [Hb.out] at hl
      obtain ⟨k, hk⟩ : ∃ k, k = 16 + n := ⟨_, rfl⟩
      rw [← hk] at hl
      have hk1 : 16 ≤ k := by omega
      have hk2 : k < 64 := by omega
      have hlen : (sched b n ++ zeros (48 - n)).length = 64 := by rw [List.length_append, zeros_length, hl]; omega
      have c15 := cell32 hrow (j := k - 15) (by omega)
      have c2 := cell32 hrow (j := k - 2) (by omega)
      have c16 := cell32 hrow (j := k - 16) (by omega)
      have c7 := cell32 hrow (j := k - 7) (by omega)
      have ck := cell32 hrow (j := k) (by omega)
      rw [at0_append_left (by omega)] at c15 c2 c16 c7
      have fk := frozen_of_row wr (w.heap.size + 1 + 1) k _ _ hrow
      have HLt := hide1 (sched_lt HB.out n)
      have b15 := HLt.out.at (by omega) (k - 15)
      have b2 := HLt.out.at (by omega) (k - 2)
      have HN : Hid (nextW (sched b n) = (at0 (sched b n) (k - 16) + gs0 (at0 (sched b n) (k - 15)) + at0 (sched b n) (k - 7) + gs1 (at0 (sched b n) (k - 2))) % 4294967296) := by
        show _ = _
        rw [← hl]
        rfl
      generalize at0 (sched b n) (k - 15) = x at c15 b15 HN
      generalize at0 (sched b n) (k - 2) = y at c2 b2 HN
      generalize at0 (sched b n) (k - 16) = p at c16 HN
      generalize at0 (sched b n) (k - 7) = r at c7 HN
      have HR := hide1 hrow
      have HE := hide1 hbe
      have HK := hide1 hk
      have HL := hide1 hl
      rw [← hk]
      clear hrow hbe hk hl hlen
      go_wp2
      go_quiet (fail)
      go_wp2
      obtain ⟨X, hX⟩ : ∃ X, wr.drewN nq = X := ⟨_, rfl⟩
      have x16 : X.cell? ⟨w.heap.size + 1 + 1, k - 16, none⟩ = some (.int .u32 (p : Int)) := by rw [← hX]; exact c16
      have x7 : X.cell? ⟨w.heap.size + 1 + 1, k - 7, none⟩ = some (.int .u32 (r : Int)) := by rw [← hX]; exact c7
      have xk : X.cell? ⟨w.heap.size + 1 + 1, k, none⟩ = some (.int .u32 (at0 (sched b n ++ zeros (48 - n)) k : Nat)) := by rw [← hX]; exact ck
      have xf : X.frozen? ⟨w.heap.size + 1 + 1, k, none⟩ = false := by rw [← hX]; exact fk
      rw [hX]
      have HX := hide1 hX
      clear hX c16 c7 ck fk c15 c2
      obtain ⟨k16, hk16⟩ : ∃ k16, k16 = k - 16 := ⟨_, rfl⟩
      obtain ⟨k7, hk7⟩ : ∃ k7, k7 = k - 7 := ⟨_, rfl⟩
      have e16 : (k : Int) - 16 = (k16 : Int) := by omega
      have e7 : (k : Int) - 7 = (k7 : Int) := by omega
      have w16 : IntKind.i64.wrap (k16 : Int) = (k16 : Int) := by rw [IntKind.wrap_i64]; omega
      have w7 : IntKind.i64.wrap (k7 : Int) = (k7 : Int) := by rw [IntKind.wrap_i64]; omega
      have l16 : (k16 : Int) < 64 := by omega
      have l7 : (k7 : Int) < 64 := by omega
      have hn16 : ¬ k = k16 := by omega
      have hn7 : ¬ k = k7 := by omega
      rw [← hk16] at x16
      rw [← hk7] at x7
      clear hk16 hk7
      go_region_held3 (fun w' => w'.cell? ⟨w.heap.size + 1 + 1, k16, none⟩ = some (.int .u32 (p : Int)) ∧ w'.cell? ⟨w.heap.size + 1 + 1, k7, none⟩ = some (.int .u32 (r : Int)))
        (first | (simp [x16, x7]; done) | (simp [x16, x7, World.cell?_setCell_other]; done))
        (first | (go_at_call 34; refine (rotr_i _ _ _ (by decide) (by decide) (by assumption)).mono ?_; rintro e w' ⟨rfl, rfl⟩))
      rw [next_int b15 b2, ← HN.out]
      go_wp2
      go_roundw
      case rel =>
        refine ⟨n + 1, by omega, by rw [HK.out]; go_num, ?_, ?_⟩
        · have hx : X.heap[w.heap.size + 1 + 1]? = some (row32 61 (sched b n ++ zeros (48 - n))) := by rw [← HX.out]; exact HR.out
          show (X.setCell _ _).heap[_]? = _
          rw [set32 hx, sched_set HL.out hlt]
        · have hx : Below (w.heap.size + 1 + 1) W X := by rw [← HX.out]; exact below_drewN' HE.out _
          exact (hx.setCell (Nat.le_refl _) _).drew
      case measure => simp [intOf]; omega
    · have hn48 : n = 48 := by omega
      subst hn48
      have h64 : (sched b 48 ++ zeros (48 - 48)) = sched b 48 := by simp [zeros]
      rw [h64] at hrow
      have hl := sched_length b 48
      rw [Hb.out] at hl
      have HR := hide1 hrow
      have HE := hide1 hbe
      have HL := hide1 hl
      have hr2 : wr.heap[w.heap.size + 1]? = some (row32 61 (zeros 64)) := (hbe.block _ (by omega)).trans HF.out.b
      have HR2 := hide1 hr2
      clear hrow hbe h64 hl hr2
      go_wp2_with (first | (refine wpList_load_row rfl 61 (.tmp 3) rfl (w.heap.size + 1 + 1) rfl 61 (u32s (sched b 48)).toArray (0, 0) _ HR.out Tryd.underlying61 rfl (by rw [show (u32s (sched b 48)).toArray.size = 64 by simp [u32s, HL.out]]; kernel_rfl) ?_) | (refine wpList_store_own rfl 61 (.tmp 2) (.tmp 51) rfl (w.heap.size + 1) rfl (u32s (sched b 48)).toArray rfl 61 _ HR2.out (by rw [show (u32s (sched b 48)).toArray.size = 64 by simp [u32s, HL.out]]; kernel_rfl) (by simp [u32s, HL.out, zeros]) (all_one (u32s_one _)) ?_))
      refine ret_row Tryd.results31 (w.heap.size + 1) 61 (u32s (sched b 48)).toArray rfl (setRow_heap _ _ _ _ _ _ HR2.out) Tryd.underlying61 (by rw [show (u32s (sched b 48)).toArray.size = 64 by simp [u32s, HL.out]]; kernel_rfl) rfl ⟨rfl, ?_⟩
      exact Below.setRow' (HF.out.below.trans (HE.out.mono (by omega))) (by omega) _
end Go.Proofs.YtjcfllidandeiaaDoor
