/- The rounds: mix. -/
import Derived.Test.YtjcfllidandeiaaDoorR
namespace Go.Proofs.YtjcfllidandeiaaDoor
open Go.RowKit
set_option maxRecDepth 100000
attribute [local go_sem] not_any

structure Three (w W : World) (A B C : Obj) : Prop where
  size : W.heap.size = w.heap.size + 1 + 1 + 1
  a : W.heap[w.heap.size]? = some A
  b : W.heap[w.heap.size + 1]? = some B
  c : W.heap[w.heap.size + 1 + 1]? = some C
  below : Below w.heap.size w W

theorem three (w : World) (A B C : Obj) : Three w (((w.alloc A).alloc B).alloc C) A B C :=
  ⟨by simp, by rw [heap_alloc_old _ _ (by simp; omega), heap_alloc2_old], by rw [heap_alloc_old _ _ (by simp), heap_alloc2_new],
   by have := heap_alloc_new ((w.alloc A).alloc B) C; simpa using this,
   (((Below.refl _ _).alloc (Nat.le_refl _) _).alloc (by simp) _).alloc (by simp; omega) _⟩

theorem not32 {e : Nat} (he : e < 4294967296) : 4294967295 ^^^ e = 4294967295 - e := by
  apply Nat.eq_of_testBit_eq
  intro i
  rw [show 4294967295 - e = 2 ^ 32 - (e + 1) by omega, Nat.testBit_two_pow_sub_succ (n := 32) (by omega), Nat.testBit_xor, show 4294967295 = 2 ^ 32 - 1 by rfl, Nat.testBit_two_pow_sub_one]
  by_cases hi : i < 32
  · simp [hi]
  · have : e.testBit i = false := Nat.testBit_lt_two_pow (Nat.lt_of_lt_of_le he (by
      have : 2 ^ 32 ≤ 2 ^ i := Nat.pow_le_pow_right (by omega) (by omega)
      simpa using this))
    simp [hi, this]

theorem not_int {e : Nat} (he : e < 4294967296) : bits .xor .u32 (if IntKind.u32.signed = true then -1 else IntKind.u32.max) (e : Int) = ((4294967295 - e : Nat) : Int) := by
  rw [show (if IntKind.u32.signed = true then (-1 : Int) else IntKind.u32.max) = ((4294967295 : Nat) : Int) from by decide, u32_xor_nat _ _ (by omega) he, not32 he]

theorem xor3_int {x y z : Nat} (hx : x < 4294967296) (hy : y < 4294967296) (hz : z < 4294967296) : bits .xor .u32 (bits .xor .u32 (x : Int) (y : Int)) (z : Int) = ((x ^^^ y ^^^ z : Nat) : Int) := by
  rw [u32_xor_nat _ _ hx hy, u32_xor_nat _ _ (xor_lt hx hy) hz]

theorem cho_int {e f g : Nat} (he : e < 4294967296) (hf : f < 4294967296) (hg : g < 4294967296) :
    bits .xor .u32 (bits .and .u32 (e : Int) (f : Int)) (bits .and .u32 (bits .xor .u32 (if IntKind.u32.signed = true then -1 else IntKind.u32.max) (e : Int)) (g : Int)) = (cho e f g : Nat) := by
  rw [not_int he, u32_and_nat _ _ he hf, u32_and_nat _ _ (by omega) hg, u32_xor_nat _ _ (and_lt hf) (and_lt hg)]
  rfl

theorem maj_int {a b c : Nat} (ha : a < 4294967296) (hb : b < 4294967296) (hc : c < 4294967296) :
    bits .xor .u32 (bits .xor .u32 (bits .and .u32 (a : Int) (b : Int)) (bits .and .u32 (a : Int) (c : Int))) (bits .and .u32 (b : Int) (c : Int)) = (maj a b c : Nat) := by
  rw [u32_and_nat _ _ ha hb, u32_and_nat _ _ ha hc, u32_and_nat _ _ hb hc, xor3_int (and_lt hb) (and_lt hc) (and_lt hc)]
  rfl

theorem t_int (s : S8) (h : s.Ok) (k w : Nat) :
    ((s.h : Int) + bits .xor .u32 (bits .xor .u32 (rot 6 s.e : Nat) (rot 11 s.e : Nat)) (rot 25 s.e : Nat) + bits .xor .u32 (bits .and .u32 (s.e : Int) (s.f : Int)) (bits .and .u32 (bits .xor .u32 (if IntKind.u32.signed = true then -1 else IntKind.u32.max) (s.e : Int)) (s.g : Int)) + (k : Int) + (w : Int)) % 4294967296 = (s.t k w : Nat) := by
  rw [xor3_int (rot_lt h.e) (rot_lt h.e) (rot_lt h.e), cho_int h.e h.f h.g]
  unfold S8.t bs1
  omega

theorem u_int (s : S8) (h : s.Ok) :
    (bits .xor .u32 (bits .xor .u32 (rot 2 s.a : Nat) (rot 13 s.a : Nat)) (rot 22 s.a : Nat) + bits .xor .u32 (bits .xor .u32 (bits .and .u32 (s.a : Int) (s.b : Int)) (bits .and .u32 (s.a : Int) (s.c : Int))) (bits .and .u32 (s.b : Int) (s.c : Int))) % 4294967296 = (s.u : Nat) := by
  rw [xor3_int (rot_lt h.a) (rot_lt h.a) (rot_lt h.a), maj_int h.a h.b h.c]
  unfold S8.u bs0
  omega

theorem sum_int (x y : Nat) : ((x : Int) + (y : Int)) % 4294967296 = (((x + y) % 4294967296 : Nat) : Int) := by omega

theorem S8.list_length (s : S8) : s.list.length = 8 := rfl

set_option maxHeartbeats 4000000 in
theorem mix_any (s ws : List Nat) (w : World) (hs : s.length = 8) (hw : ws.length = 64) (bs : Lt 4294967296 s) (bw : Lt 4294967296 ws) (hL : Laid w) :
    Calls Tryd.prog 30 #[arr32 s, arr32 ws] w fun e w' => e = .returned (arr32 (rnd ROOTS ws (S8.of s) 64).list) ∧ Below w.heap.size w w' := by
  have HL := hide1 hL
  have HS := hide1 (S8.of_ok bs)
  have HW := hide1 bw
  have Hs := hide1 hs
  have Hw := hide1 hw
  clear hL bs bw hs hw
  unfold arr32
  go_enter Tryd.func30, Tryd.ntmps30
  go_wp2
  generalize hW : World.alloc (World.alloc (World.alloc w _) _) _ = W
  have F := three w (row32 32 s) (row32 61 ws) (row32 32 [0, 0, 0, 0, 0, 0, 0, 0])
  have F' : Three w W (row32 32 s) (row32 61 ws) (row32 32 [0, 0, 0, 0, 0, 0, 0, 0]) := by rw [← hW]; exact F
  clear F hW
  have HF := hide1 F'
  have c0 := cell32 F'.a (j := 0) (by rw [Hs.out]; omega)
  have c1 := cell32 F'.a (j := 1) (by rw [Hs.out]; omega)
  have c2 := cell32 F'.a (j := 2) (by rw [Hs.out]; omega)
  have c3 := cell32 F'.a (j := 3) (by rw [Hs.out]; omega)
  have c4 := cell32 F'.a (j := 4) (by rw [Hs.out]; omega)
  have c5 := cell32 F'.a (j := 5) (by rw [Hs.out]; omega)
  have c6 := cell32 F'.a (j := 6) (by rw [Hs.out]; omega)
  have c7 := cell32 F'.a (j := 7) (by rw [Hs.out]; omega)
  clear F'
  go_quiet (fail)
  clear c0 c1 c2 c3 c4 c5 c6 c7
  go_wp2
  go_loopw [5, 6, 7, 8, 9, 10, 11, 12, 32] (fun a b c d e f g h i wr => ∃ k q : Nat, k ≤ 64 ∧ i = .int .i64 k ∧ wr = W.drewN q ∧ a = .int .u32 ((rnd ROOTS ws (S8.of s) k).a : Nat) ∧ b = .int .u32 ((rnd ROOTS ws (S8.of s) k).b : Nat) ∧ c = .int .u32 ((rnd ROOTS ws (S8.of s) k).c : Nat) ∧ d = .int .u32 ((rnd ROOTS ws (S8.of s) k).d : Nat) ∧ e = .int .u32 ((rnd ROOTS ws (S8.of s) k).e : Nat) ∧ f = .int .u32 ((rnd ROOTS ws (S8.of s) k).f : Nat) ∧ g = .int .u32 ((rnd ROOTS ws (S8.of s) k).g : Nat) ∧ h = .int .u32 ((rnd ROOTS ws (S8.of s) k).h : Nat)) (fun _ _ _ _ _ _ _ _ i _ => 64 - (intOf i).toNat)
  case atStart => exact ⟨0, nq, Nat.zero_le _, rfl, rfl, rfl, rfl, rfl, rfl, rfl, rfl, rfl, rfl⟩
  case round =>
    obtain ⟨k, q, hk, rfl, rfl, rfl, rfl, rfl, rfl, rfl, rfl, rfl, rfl⟩ := hrel
    by_cases hlt : k < 64
    · have HO := hide1 (rnd_ok (ks := ROOTS) (ws := ws) HS.out k)
      have HN : Hid (rnd ROOTS ws (S8.of s) (k + 1) = (rnd ROOTS ws (S8.of s) k).step (at0 ROOTS k) (at0 ws k)) := rfl
      generalize rnd ROOTS ws (S8.of s) k = st at HO HN
      obtain ⟨a, b, c, d, e, f, g, h⟩ := st
      have ha := HO.out.a
      have hb := HO.out.b
      have hc := HO.out.c
      have he := HO.out.e
      have hg := HO.out.g
      simp only at ha hb hc he hg
      have cr : W.cell? ⟨1, k, none⟩ = some (.int .u32 (at0 ROOTS k : Nat)) := (HL.out.below HF.out.below HL.out.two).roots k hlt
      have cw := cell32 HF.out.b (j := k) (by rw [Hw.out]; omega)
      generalize at0 ROOTS k = rk at cr HN
      generalize at0 ws k = wk at cw HN
      go_wp2_with fail
      obtain ⟨X, hX⟩ : ∃ X, W.drewN q = X := ⟨_, rfl⟩
      have cr' : X.cell? ⟨1, k, none⟩ = some (.int .u32 (rk : Int)) := by rw [← hX]; exact cr
      have cw' : X.cell? ⟨w.heap.size + 1, k, none⟩ = some (.int .u32 (wk : Int)) := by rw [← hX]; exact cw
      rw [hX]
      have HX := hide1 hX
      clear hX cr cw
      go_quiet ((go_at_call 34; exact Calls.quiet_of_same (rotr_i _ _ _ (by decide) (by decide) (by assumption))))
      go_wp2_with (go_at_call 34; refine (rotr_i _ _ _ (by decide) (by decide) (by assumption)).mono ?_; rintro e w' ⟨rfl, rfl⟩)
      go_roundw
      case rel =>
        have et := t_int _ HO.out rk wk
        have eu := u_int _ HO.out
        simp only at et eu
        refine ⟨k + 1, q + nq, by omega, by go_num, by rw [← HX.out]; exact World.drewN_drewN _ _ _, ?_⟩
        rw [HN.out, et, eu, sum_int, sum_int]
        exact ⟨rfl, rfl, rfl, rfl, rfl, rfl, rfl, rfl⟩
      case measure => simp [intOf]; omega
    · have : k = 64 := by omega
      subst this
      have F3 := HF.out.c
      generalize hst : rnd ROOTS ws (S8.of s) 64 = st
      have Hst := hide1 hst
      clear hst
      have h3 : (W.drewN q).heap[w.heap.size + 1 + 1]? = some (row32 32 [0, 0, 0, 0, 0, 0, 0, 0]) := F3
      have H3 := hide1 h3
      clear h3 F3
      go_wp2_with (refine wpList_store_own rfl 32 (.tmp 4) (.tmp 103) rfl (w.heap.size + 1 + 1) rfl (u32s st.list).toArray rfl 32 _ H3.out (by kernel_rfl) (by simp [u32s, S8.list]) (all_one (u32s_one _)) ?_)
      refine ret_row Tryd.results30 (w.heap.size + 1 + 1) 32 (u32s st.list).toArray rfl (setRow_heap _ _ _ _ _ _ H3.out) Tryd.underlying32 (by kernel_rfl) rfl ⟨by rw [Hst.out], ?_⟩
      exact Below.setRow' (below_drewN' HF.out.below q) (by omega) _
end Go.Proofs.YtjcfllidandeiaaDoor
