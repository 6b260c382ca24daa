/- The rounds: mix. The words of all rounds: spreadOut. -/
import Derived.Test.YtlkkninnfiaedaaDoorJ15
import Derived.Laws.CopyOwn
import Derived.Deep.RegionHeld3
namespace Go.Proofs.YtlkkninnfiaedaaDoor.Sh
open Go.RowKit
set_option maxRecDepth 100000
attribute [local go_sem] not_any

structure Three (w W : World) (A B C : Obj) : Prop where
  size : W.heap.size = w.heap.size + 1 + 1 + 1
  a : W.heap[w.heap.size]? = some A
  b : W.heap[w.heap.size + 1]? = some B
  c : W.heap[w.heap.size + 1 + 1]? = some C
  below : Below w.heap.size w W

theorem three (w : World) (A B C : Obj) : Three w (((w.alloc A).alloc B).alloc C) A B C :=
  ⟨by simp, by rw [heap_alloc_old _ _ (by simp; omega), heap_alloc2_old], by rw [heap_alloc_old _ _ (by simp), heap_alloc2_new],
   by have := heap_alloc_new ((w.alloc A).alloc B) C; simpa using this,
   (((Below.refl _ _).alloc (Nat.le_refl _) _).alloc (by simp) _).alloc (by simp; omega) _⟩

theorem not32 {e : Nat} (he : e < 4294967296) : 4294967295 ^^^ e = 4294967295 - e := by
  apply Nat.eq_of_testBit_eq
  intro i
  rw [show 4294967295 - e = 2 ^ 32 - (e + 1) by omega, Nat.testBit_two_pow_sub_succ (n := 32) (by omega), Nat.testBit_xor, show 4294967295 = 2 ^ 32 - 1 by rfl, Nat.testBit_two_pow_sub_one]
  by_cases hi : i < 32
  · simp [hi]
  · have : e.testBit i = false := Nat.testBit_lt_two_pow (Nat.lt_of_lt_of_le he (by
      have : 2 ^ 32 ≤ 2 ^ i := Nat.pow_le_pow_right (by omega) (by omega)
      simpa using this))
    simp [hi, this]

theorem not_int {e : Nat} (he : e < 4294967296) : bits .xor .u32 (if IntKind.u32.signed = true then -1 else IntKind.u32.max) (e : Int) = ((4294967295 - e : Nat) : Int) := by
  rw [show (if IntKind.u32.signed = true then (-1 : Int) else IntKind.u32.max) = ((4294967295 : Nat) : Int) from by decide, u32_xor_nat _ _ (by omega) he, not32 he]

theorem xor3_int {x y z : Nat} (hx : x < 4294967296) (hy : y < 4294967296) (hz : z < 4294967296) : bits .xor .u32 (bits .xor .u32 (x : Int) (y : Int)) (z : Int) = ((x ^^^ y ^^^ z : Nat) : Int) := by
  rw [u32_xor_nat _ _ hx hy, u32_xor_nat _ _ (xor_lt hx hy) hz]

theorem cho_int {e f g : Nat} (he : e < 4294967296) (hf : f < 4294967296) (hg : g < 4294967296) :
    bits .xor .u32 (bits .and .u32 (e : Int) (f : Int)) (bits .and .u32 (bits .xor .u32 (if IntKind.u32.signed = true then -1 else IntKind.u32.max) (e : Int)) (g : Int)) = (cho e f g : Nat) := by
  rw [not_int he, u32_and_nat _ _ he hf, u32_and_nat _ _ (by omega) hg, u32_xor_nat _ _ (and_lt hf) (and_lt hg)]
  rfl

theorem maj_int {a b c : Nat} (ha : a < 4294967296) (hb : b < 4294967296) (hc : c < 4294967296) :
    bits .xor .u32 (bits .xor .u32 (bits .and .u32 (a : Int) (b : Int)) (bits .and .u32 (a : Int) (c : Int))) (bits .and .u32 (b : Int) (c : Int)) = (maj a b c : Nat) := by
  rw [u32_and_nat _ _ ha hb, u32_and_nat _ _ ha hc, u32_and_nat _ _ hb hc, xor3_int (and_lt hb) (and_lt hc) (and_lt hc)]
  rfl

theorem t_int (s : S8) (h : s.Ok) (k w : Nat) :
    ((s.h : Int) + bits .xor .u32 (bits .xor .u32 (rot 6 s.e : Nat) (rot 11 s.e : Nat)) (rot 25 s.e : Nat) + bits .xor .u32 (bits .and .u32 (s.e : Int) (s.f : Int)) (bits .and .u32 (bits .xor .u32 (if IntKind.u32.signed = true then -1 else IntKind.u32.max) (s.e : Int)) (s.g : Int)) + (k : Int) + (w : Int)) % 4294967296 = (s.t k w : Nat) := by
  rw [xor3_int (rot_lt h.e) (rot_lt h.e) (rot_lt h.e), cho_int h.e h.f h.g]
  unfold S8.t bs1
  omega

theorem u_int (s : S8) (h : s.Ok) :
    (bits .xor .u32 (bits .xor .u32 (rot 2 s.a : Nat) (rot 13 s.a : Nat)) (rot 22 s.a : Nat) + bits .xor .u32 (bits .xor .u32 (bits .and .u32 (s.a : Int) (s.b : Int)) (bits .and .u32 (s.a : Int) (s.c : Int))) (bits .and .u32 (s.b : Int) (s.c : Int))) % 4294967296 = (s.u : Nat) := by
  rw [xor3_int (rot_lt h.a) (rot_lt h.a) (rot_lt h.a), maj_int h.a h.b h.c]
  unfold S8.u bs0
  omega

theorem sum_int (x y : Nat) : ((x : Int) + (y : Int)) % 4294967296 = (((x + y) % 4294967296 : Nat) : Int) := by omega

theorem S8.list_length (s : S8) : s.list.length = 8 := rfl

set_option maxHeartbeats 4000000 in
theorem mix_any (s ws : List Nat) (w : World) (hs : s.length = 8) (hw : ws.length = 64) (bs : Lt 4294967296 s) (bw : Lt 4294967296 ws) (hL : Laid w) :
    Calls Tryd.prog 95 #[arr32 s, arr32 ws] w fun e w' => e = .returned (arr32 (rnd ROOTS ws (S8.of s) 64).list) ∧ Below w.heap.size w w' := by
  have HL := hide1 hL
  have HS := hide1 (S8.of_ok bs)
  have HW := hide1 bw
  have Hs := hide1 hs
  have Hw := hide1 hw
  clear hL bs bw hs hw
  unfold arr32
  go_enter Tryd.func95, Tryd.ntmps95
  go_wp2
  generalize hW : World.alloc (World.alloc (World.alloc w _) _) _ = W
  have F := three w (row32 102 s) (row32 160 ws) (row32 102 [0, 0, 0, 0, 0, 0, 0, 0])
  have F' : Three w W (row32 102 s) (row32 160 ws) (row32 102 [0, 0, 0, 0, 0, 0, 0, 0]) := by rw [← hW]; exact F
  clear F hW
  have HF := hide1 F'
  have c0 := cell32 F'.a (j := 0) (by rw [Hs.out]; omega)
  have c1 := cell32 F'.a (j := 1) (by rw [Hs.out]; omega)
  have c2 := cell32 F'.a (j := 2) (by rw [Hs.out]; omega)
  have c3 := cell32 F'.a (j := 3) (by rw [Hs.out]; omega)
  have c4 := cell32 F'.a (j := 4) (by rw [Hs.out]; omega)
  have c5 := cell32 F'.a (j := 5) (by rw [Hs.out]; omega)
  have c6 := cell32 F'.a (j := 6) (by rw [Hs.out]; omega)
  have c7 := cell32 F'.a (j := 7) (by rw [Hs.out]; omega)
  clear F'
  go_quiet (fail)
  clear c0 c1 c2 c3 c4 c5 c6 c7
  go_wp2
  go_loopw [5, 6, 7, 8, 9, 10, 11, 12, 32] (fun a b c d e f g h i wr => ∃ k q : Nat, k ≤ 64 ∧ i = .int .i64 k ∧ wr = W.drewN q ∧ a = .int .u32 ((rnd ROOTS ws (S8.of s) k).a : Nat) ∧ b = .int .u32 ((rnd ROOTS ws (S8.of s) k).b : Nat) ∧ c = .int .u32 ((rnd ROOTS ws (S8.of s) k).c : Nat) ∧ d = .int .u32 ((rnd ROOTS ws (S8.of s) k).d : Nat) ∧ e = .int .u32 ((rnd ROOTS ws (S8.of s) k).e : Nat) ∧ f = .int .u32 ((rnd ROOTS ws (S8.of s) k).f : Nat) ∧ g = .int .u32 ((rnd ROOTS ws (S8.of s) k).g : Nat) ∧ h = .int .u32 ((rnd ROOTS ws (S8.of s) k).h : Nat)) (fun _ _ _ _ _ _ _ _ i _ => 64 - (intOf i).toNat)
  case atStart => exact ⟨0, nq, Nat.zero_le _, rfl, rfl, rfl, rfl, rfl, rfl, rfl, rfl, rfl, rfl⟩
  case round =>
    obtain ⟨k, q, hk, rfl, rfl, rfl, rfl, rfl, rfl, rfl, rfl, rfl, rfl⟩ := hrel
    by_cases hlt : k < 64
    · have HO := hide1 (rnd_ok (ks := ROOTS) (ws := ws) HS.out k)
      have HN : Hid (rnd ROOTS ws (S8.of s) (k + 1) = (rnd ROOTS ws (S8.of s) k).step (at0 ROOTS k) (at0 ws k)) := rfl
      generalize rnd ROOTS ws (S8.of s) k = st at HO HN
      obtain ⟨a, b, c, d, e, f, g, h⟩ := st
      have ha := HO.out.a
      have hb := HO.out.b
      have hc := HO.out.c
      have he := HO.out.e
      have hg := HO.out.g
      simp only at ha hb hc he hg
      have cr : W.cell? ⟨1, k, none⟩ = some (.int .u32 (at0 ROOTS k : Nat)) := (HL.out.below HF.out.below HL.out.two).roots k hlt
      have cw := cell32 HF.out.b (j := k) (by rw [Hw.out]; omega)
      generalize at0 ROOTS k = rk at cr HN
      generalize at0 ws k = wk at cw HN
      go_wp2_with fail
      obtain ⟨X, hX⟩ : ∃ X, W.drewN q = X := ⟨_, rfl⟩
      have cr' : X.cell? ⟨1, k, none⟩ = some (.int .u32 (rk : Int)) := by rw [← hX]; exact cr
      have cw' : X.cell? ⟨w.heap.size + 1, k, none⟩ = some (.int .u32 (wk : Int)) := by rw [← hX]; exact cw
      rw [hX]
      have HX := hide1 hX
      clear hX cr cw
      go_quiet ((go_at_call 112; exact Calls.quiet_of_same (rotr_i _ _ _ (by decide) (by decide) (by assumption))))
      go_wp2_with (go_at_call 112; refine (rotr_i _ _ _ (by decide) (by decide) (by assumption)).mono ?_; rintro e w' ⟨rfl, rfl⟩)
      go_roundw
      case rel =>
        have et := t_int _ HO.out rk wk
        have eu := u_int _ HO.out
        simp only at et eu
        refine ⟨k + 1, q + nq, by omega, by go_num, by rw [← HX.out]; exact World.drewN_drewN _ _ _, ?_⟩
        rw [HN.out, et, eu, sum_int, sum_int]
        exact ⟨rfl, rfl, rfl, rfl, rfl, rfl, rfl, rfl⟩
      case measure => simp [intOf]; omega
    · have : k = 64 := by omega
      subst this
      have F3 := HF.out.c
      generalize hst : rnd ROOTS ws (S8.of s) 64 = st
      have Hst := hide1 hst
      clear hst
      have h3 : (W.drewN q).heap[w.heap.size + 1 + 1]? = some (row32 102 [0, 0, 0, 0, 0, 0, 0, 0]) := F3
      have H3 := hide1 h3
      clear h3 F3
      go_wp2_with (refine wpList_store_own rfl 102 (.tmp 4) (.tmp 103) rfl (w.heap.size + 1 + 1) rfl (u32s st.list).toArray rfl 102 _ H3.out (by kernel_rfl) (by simp [u32s, S8.list]) (all_one (u32s_one _)) ?_)
      refine ret_row Tryd.results95 (w.heap.size + 1 + 1) 102 (u32s st.list).toArray rfl (setRow_heap _ _ _ _ _ _ H3.out) Tryd.underlying102 (by kernel_rfl) rfl ⟨by rw [Hst.out], ?_⟩
      exact Below.setRow' (below_drewN' HF.out.below q) (by omega) _
end Go.Proofs.YtlkkninnfiaedaaDoor.Sh

namespace Go.Proofs.YtlkkninnfiaedaaDoor.Sh
open Go.RowKit
set_option maxRecDepth 100000
attribute [local go_sem] not_any

theorem size30 : (Tryd.prog.info? 85).map (·.size) = some 1 := by kernel_rfl
theorem size5 : (Tryd.prog.info? 5).map (·.size) = some 1 := by kernel_rfl

def zeros (n : Nat) : List Nat := List.replicate n 0
theorem zeros_length (n : Nat) : (zeros n).length = n := by simp [zeros]

theorem splice32 {l b : List Nat} (_h : b.length ≤ l.length) : splice (u32s l) 0 (u32s b) = u32s (b ++ l.drop b.length) := by
  simp [splice, u32s]

theorem gs0_int {x : Nat} (hx : x < 4294967296) : bits .xor .u32 (bits .xor .u32 (rot 7 x : Nat) (rot 18 x : Nat)) ((x : Int) / 8) = (gs0 x : Nat) := by
  rw [show (x : Int) / 8 = ((x / 8 : Nat) : Int) by omega, xor3_int (rot_lt hx) (rot_lt hx) (div_lt' hx)]
  rfl
theorem gs1_int {x : Nat} (hx : x < 4294967296) : bits .xor .u32 (bits .xor .u32 (rot 17 x : Nat) (rot 19 x : Nat)) ((x : Int) / 1024) = (gs1 x : Nat) := by
  rw [show (x : Int) / 1024 = ((x / 1024 : Nat) : Int) by omega, xor3_int (rot_lt hx) (rot_lt hx) (div_lt' hx)]
  rfl
theorem next_int {p x r y : Nat} (hx : x < 4294967296) (hy : y < 4294967296) :
    IntKind.u32.wrap (IntKind.u32.wrap (IntKind.u32.wrap ((p : Int) + bits .xor .u32 (bits .xor .u32 (rot 7 x : Nat) (rot 18 x : Nat)) ((x : Int) / 8)) + (r : Int)) + bits .xor .u32 (bits .xor .u32 (rot 17 y : Nat) (rot 19 y : Nat)) ((y : Int) / 1024)) = (((p + gs0 x + r + gs1 y) % 4294967296 : Nat) : Int) := by
  rw [gs0_int hx, gs1_int hy, wrap32_add, wrap32_add, wrap32_add]
  congr 1
  omega

theorem sched_set {b : List Nat} {n k : Nat} (hl : (sched b n).length = k) (hn : n < 48) : (sched b n ++ zeros (48 - n)).set k (nextW (sched b n)) = sched b (n + 1) ++ zeros (48 - (n + 1)) := by
  rw [List.set_append_right _ _ (by omega), hl, Nat.sub_self, show 48 - n = (48 - (n + 1)) + 1 by omega, zeros, List.replicate_succ, List.set_cons_zero]
  simp [sched, zeros]

set_option maxHeartbeats 4000000 in
theorem spread_any (b : List Nat) (w : World) (hb : b.length = 16) (bb : Lt 4294967296 b) :
    Calls Tryd.prog 96 #[arr32 b] w fun e w' => e = .returned (arr32 (sched b 48)) ∧ Below w.heap.size w w' := by
  have HB := hide1 bb
  have Hb := hide1 hb
  clear bb hb
  unfold arr32
  go_enter Tryd.func96, Tryd.ntmps96
  go_wp2
  generalize hW : World.alloc (World.alloc (World.alloc w _) _) _ = W
  have F := three w (row32 136 b) (row32 160 (zeros 64)) (row32 160 (zeros 64))
  have F' : Three w W (row32 136 b) (row32 160 (zeros 64)) (row32 160 (zeros 64)) := by rw [← hW]; exact F
  clear F hW
  have HF := hide1 F'
  clear F'
  go_region_law (refine step_copy_splice rfl (.tmp 7) (.tmp 8) 140 140 rfl 85 Tryd.underlying140 size30 (some ⟨w.heap.size + 1 + 1, 0, none⟩) (some ⟨w.heap.size, 0, none⟩) 64 64 16 16 rfl rfl (w.heap.size + 1 + 1) 0 (u32s (zeros 64)) 160 HF.out.c (u32s b) (by simp [u32s, Hb.out]) (fun _ => ⟨rfl, _, rfl, fun j v hj => by rw [Addr.add_lit, Nat.zero_add]; exact (cell_of_row _ _ j _ 136 (0, 0) HF.out.a).trans (by simpa using hj)⟩) (by simp [u32s, zeros, Hb.out]) (u32s_one _) (w.heap.size + 1 + 1) W (Below.refl _ _).drew (Nat.le_refl _) ?_; intro w4 hg4 hb4)
  have h0 : w4.heap[w.heap.size + 1 + 1]? = some (row32 160 (sched b 0 ++ zeros 48)) := by
    rw [hg4.out, splice32 (by simp [zeros, Hb.out])]
    simp [row32, sched, zeros, Hb.out]
  have H0 := hide1 h0
  clear hg4 h0
  go_wp2
  go_loopw [4] (fun i wr => ∃ n : Nat, n ≤ 48 ∧ i = .int .i64 (16 + n : Nat) ∧ wr.heap[w.heap.size + 1 + 1]? = some (row32 160 (sched b n ++ zeros (48 - n))) ∧ Below (w.heap.size + 1 + 1) W wr) (fun i _ => 64 - (intOf i).toNat)
  case atStart => exact ⟨0, Nat.zero_le _, rfl, H0.out, hb4⟩
  case round =>
    obtain ⟨n, hn, rfl, hrow, hbe⟩ := hrel
    clear H0 hb4
    by_cases hlt : n < 48
    · have hl := sched_length b n
      rw [Hb.out] at hl
      obtain ⟨k, hk⟩ : ∃ k, k = 16 + n := ⟨_, rfl⟩
      rw [← hk] at hl
      have hk1 : 16 ≤ k := by omega
      have hk2 : k < 64 := by omega
      have hlen : (sched b n ++ zeros (48 - n)).length = 64 := by rw [List.length_append, zeros_length, hl]; omega
      have c15 := cell32 hrow (j := k - 15) (by omega)
      have c2 := cell32 hrow (j := k - 2) (by omega)
      have c16 := cell32 hrow (j := k - 16) (by omega)
      have c7 := cell32 hrow (j := k - 7) (by omega)
      have ck := cell32 hrow (j := k) (by omega)
      rw [at0_append_left (by omega)] at c15 c2 c16 c7
      have fk := frozen_of_row wr (w.heap.size + 1 + 1) k _ _ hrow
      have HLt := hide1 (sched_lt HB.out n)
      have b15 := HLt.out.at (by omega) (k - 15)
      have b2 := HLt.out.at (by omega) (k - 2)
      have HN : Hid (nextW (sched b n) = (at0 (sched b n) (k - 16) + gs0 (at0 (sched b n) (k - 15)) + at0 (sched b n) (k - 7) + gs1 (at0 (sched b n) (k - 2))) % 4294967296) := by
        show _ = _
        rw [← hl]
        rfl
      generalize at0 (sched b n) (k - 15) = x at c15 b15 HN
      generalize at0 (sched b n) (k - 2) = y at c2 b2 HN
      generalize at0 (sched b n) (k - 16) = p at c16 HN
      generalize at0 (sched b n) (k - 7) = r at c7 HN
      have HR := hide1 hrow
      have HE := hide1 hbe
      have HK := hide1 hk
      have HL := hide1 hl
      rw [← hk]
      clear hrow hbe hk hl hlen
      go_wp2
      go_quiet (fail)
      go_wp2
      obtain ⟨X, hX⟩ : ∃ X, wr.drewN nq = X := ⟨_, rfl⟩
      have x16 : X.cell? ⟨w.heap.size + 1 + 1, k - 16, none⟩ = some (.int .u32 (p : Int)) := by rw [← hX]; exact c16
      have x7 : X.cell? ⟨w.heap.size + 1 + 1, k - 7, none⟩ = some (.int .u32 (r : Int)) := by rw [← hX]; exact c7
      have xk : X.cell? ⟨w.heap.size + 1 + 1, k, none⟩ = some (.int .u32 (at0 (sched b n ++ zeros (48 - n)) k : Nat)) := by rw [← hX]; exact ck
      have xf : X.frozen? ⟨w.heap.size + 1 + 1, k, none⟩ = false := by rw [← hX]; exact fk
      rw [hX]
      have HX := hide1 hX
      clear hX c16 c7 ck fk c15 c2
      obtain ⟨k16, hk16⟩ : ∃ k16, k16 = k - 16 := ⟨_, rfl⟩
      obtain ⟨k7, hk7⟩ : ∃ k7, k7 = k - 7 := ⟨_, rfl⟩
      have e16 : (k : Int) - 16 = (k16 : Int) := by omega
      have e7 : (k : Int) - 7 = (k7 : Int) := by omega
      have w16 : IntKind.i64.wrap (k16 : Int) = (k16 : Int) := by rw [IntKind.wrap_i64]; omega
      have w7 : IntKind.i64.wrap (k7 : Int) = (k7 : Int) := by rw [IntKind.wrap_i64]; omega
      have l16 : (k16 : Int) < 64 := by omega
      have l7 : (k7 : Int) < 64 := by omega
      have hn16 : ¬ k = k16 := by omega
      have hn7 : ¬ k = k7 := by omega
      rw [← hk16] at x16
      rw [← hk7] at x7
      clear hk16 hk7
      go_region_held3 (fun w' => w'.cell? ⟨w.heap.size + 1 + 1, k16, none⟩ = some (.int .u32 (p : Int)) ∧ w'.cell? ⟨w.heap.size + 1 + 1, k7, none⟩ = some (.int .u32 (r : Int)))
        (first | (simp [x16, x7]; done) | (simp [x16, x7, World.cell?_setCell_other]; done))
        (first | (go_at_call 112; refine (rotr_i _ _ _ (by decide) (by decide) (by assumption)).mono ?_; rintro e w' ⟨rfl, rfl⟩))
      rw [next_int b15 b2, ← HN.out]
      go_wp2
      go_roundw
      case rel =>
        refine ⟨n + 1, by omega, by rw [HK.out]; go_num, ?_, ?_⟩
        · have hx : X.heap[w.heap.size + 1 + 1]? = some (row32 160 (sched b n ++ zeros (48 - n))) := by rw [← HX.out]; exact HR.out
          show (X.setCell _ _).heap[_]? = _
          rw [set32 hx, sched_set HL.out hlt]
        · have hx : Below (w.heap.size + 1 + 1) W X := by rw [← HX.out]; exact below_drewN' HE.out _
          exact (hx.setCell (Nat.le_refl _) _).drew
      case measure => simp [intOf]; omega
    · have hn48 : n = 48 := by omega
      subst hn48
      have h64 : (sched b 48 ++ zeros (48 - 48)) = sched b 48 := by simp [zeros]
      rw [h64] at hrow
      have hl := sched_length b 48
      rw [Hb.out] at hl
      have HR := hide1 hrow
      have HE := hide1 hbe
      have HL := hide1 hl
      have hr2 : wr.heap[w.heap.size + 1]? = some (row32 160 (zeros 64)) := (hbe.block _ (by omega)).trans HF.out.b
      have HR2 := hide1 hr2
      clear hrow hbe h64 hl hr2
      go_wp2_with (first | (refine wpList_load_row rfl 160 (.tmp 3) rfl (w.heap.size + 1 + 1) rfl 160 (u32s (sched b 48)).toArray (0, 0) _ HR.out Tryd.underlying160 rfl (by rw [show (u32s (sched b 48)).toArray.size = 64 by simp [u32s, HL.out]]; kernel_rfl) ?_) | (refine wpList_store_own rfl 160 (.tmp 2) (.tmp 51) rfl (w.heap.size + 1) rfl (u32s (sched b 48)).toArray rfl 160 _ HR2.out (by rw [show (u32s (sched b 48)).toArray.size = 64 by simp [u32s, HL.out]]; kernel_rfl) (by simp [u32s, HL.out, zeros]) (all_one (u32s_one _)) ?_))
      refine ret_row Tryd.results96 (w.heap.size + 1) 160 (u32s (sched b 48)).toArray rfl (setRow_heap _ _ _ _ _ _ HR2.out) Tryd.underlying160 (by rw [show (u32s (sched b 48)).toArray.size = 64 by simp [u32s, HL.out]]; kernel_rfl) rfl ⟨rfl, ?_⟩
      exact Below.setRow' (HF.out.below.trans (HE.out.mono (by omega))) (by omega) _
end Go.Proofs.YtlkkninnfiaedaaDoor.Sh
