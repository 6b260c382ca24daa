/- The document's 'with': 64 bytes taken into eight words. -/
import Derived.Test.YtlkkninnfiaedaaDoorJ23
namespace Go.Proofs.YtlkkninnfiaedaaDoor.Sh
open Go.RowKit
set_option maxRecDepth 100000
attribute [local go_sem] not_any

def WPost (k h : List Nat) (s : ByteArray) (w : World) (e : Ending) (w' : World) : Prop := ∃ v, e = .returned v ∧ Rd w' v (comp k h (wordsOf (nums s))) ∧ Below w.heap.size w w'

theorem wordsOf_take (l : List Nat) (k : Nat) (h : k < 16) : (wordsOf l).take (k + 1) = (wordsOf l).take k ++ [wordAt l (4 * k)] := by
  rw [List.take_add_one]
  have : (wordsOf l)[k]? = some (wordAt l (4 * k)) := by simp [wordsOf, h]
  rw [this]
  rfl

theorem t_int2 (s : S8) (h : s.Ok) (k w ne : Nat) (hne : ne = 4294967295 - s.e) :
    ((s.h : Int) + bits .xor .u32 (bits .xor .u32 (rot 6 s.e : Nat) (rot 11 s.e : Nat)) (rot 25 s.e : Nat) + bits .xor .u32 (bits .and .u32 (s.e : Int) (s.f : Int)) (bits .and .u32 (ne : Int) (s.g : Int)) + (k : Int) + (w : Int)) % 4294967296 = (s.t k w : Nat) := by
  have e : bits .xor .u32 (bits .and .u32 (s.e : Int) (s.f : Int)) (bits .and .u32 (ne : Int) (s.g : Int)) = (cho s.e s.f s.g : Nat) := by
    rw [u32_and_nat _ _ h.e h.f, u32_and_nat _ _ (by omega) h.g, u32_xor_nat _ _ (and_lt h.f) (and_lt h.g), hne]
    rfl
  rw [xor3_int (rot_lt h.e) (rot_lt h.e) (rot_lt h.e), e]
  unfold S8.t bs1
  omega

theorem u_int2 (s : S8) (h : s.Ok) :
    (bits .xor .u32 (bits .xor .u32 (rot 2 s.a : Nat) (rot 13 s.a : Nat)) (rot 22 s.a : Nat) + bits .or .u32 (bits .or .u32 (bits .and .u32 (s.a : Int) (s.b : Int)) (bits .and .u32 (s.a : Int) (s.c : Int))) (bits .and .u32 (s.b : Int) (s.c : Int))) % 4294967296 = (s.u : Nat) := by
  have e : bits .or .u32 (bits .or .u32 (bits .and .u32 (s.a : Int) (s.b : Int)) (bits .and .u32 (s.a : Int) (s.c : Int))) (bits .and .u32 (s.b : Int) (s.c : Int)) = (maj s.a s.b s.c : Nat) := by
    rw [u32_and_nat _ _ h.a h.b, u32_and_nat _ _ h.a h.c, u32_and_nat _ _ h.b h.c, u32_or_nat _ _ (and_lt h.b) (and_lt h.c), u32_or_nat _ _ (or_lt (and_lt h.b) (and_lt h.c)) (and_lt h.c), ← maj_or]
  rw [xor3_int (rot_lt h.a) (rot_lt h.a) (rot_lt h.a), e]
  unfold S8.u bs0
  omega

theorem addW_list (h : List Nat) (st : S8) : addW h st.list = [(at0 h 0 + st.a) % 4294967296, (at0 h 1 + st.b) % 4294967296, (at0 h 2 + st.c) % 4294967296, (at0 h 3 + st.d) % 4294967296, (at0 h 4 + st.e) % 4294967296, (at0 h 5 + st.f) % 4294967296, (at0 h 6 + st.g) % 4294967296, (at0 h 7 + st.h) % 4294967296] := rfl

theorem rd_new (w : World) (l : List Nat) : Rd (w.alloc (.cells (u32s l).toArray 85)) (.slice (some ⟨w.heap.size, 0, none⟩) l.length l.length) l := by
  refine ⟨w.heap.size, l.length, rfl, by simp, fun j hj => ?_⟩
  rw [cell_of_row _ _ j _ 85 (0, 0) (heap_alloc_new w _)]
  simp [u32s, get_at0 hj]

set_option maxHeartbeats 4000000 in
theorem with_any (h ks : List Nat) (s : ByteArray) (w : World) (hv kv : Value) (Hh : Rd w hv h) (Hk : Rd w kv ks) (lh : h.length = 8) (lk : ks.length = 64) (th : Lt 4294967296 h) (tk : Lt 4294967296 ks) (hs : s.size = 64) :
    Calls Tryd.prog 79 #[hv, kv, .string s] w (WPost ks h s w) := by
  obtain ⟨i0, hi, hz0, hz1, hz2⟩ := info_of info30
  have HH := hide1 Hh
  have HKs := hide1 Hk
  have HLh := hide1 lh
  have HLk := hide1 lk
  have HTh := hide1 th
  have HTk := hide1 tk
  have HSz := hide1 hs
  clear Hh Hk lh lk th tk hs
  go_enter Tryd.func79, Tryd.ntmps79
  go_wp2
  go_loopw [7, 8] (fun v7 v8 wr => ∃ k : Nat, k ≤ 16 ∧ v8 = .int .i64 k ∧ Own32 w.heap.size wr v7 ((wordsOf (nums s)).take k) ∧ Below w.heap.size w wr) (fun _ v8 _ => 16 - (intOf v8).toNat)
  case atStart => exact ⟨0, Nat.zero_le _, rfl, World.ownsRow_nil _ _ _ _, Below.refl _ _⟩
  case round =>
    obtain ⟨k, hk, rfl, ho, hb⟩ := hrel
    obtain ⟨a, c, rfl⟩ := own_val ho
    have hlen : ((wordsOf (nums s)).take k).length = k := by rw [List.length_take, wordsOf_length]; omega
    by_cases hlt : k < 16
    · rw [hlen]
      have HO := hide1 ho
      unfold Own32 at HO
      rw [hlen] at HO
      have HB := hide1 hb
      have Hlen : Shy (((wordsOf (nums s)).take k).length = k) := ⟨hlen⟩
      have HN : Shy ((wordsOf (nums s)).take (k + 1) = (wordsOf (nums s)).take k ++ [wordAt (nums s) (4 * k)]) := ⟨wordsOf_take _ _ hlt⟩
      have hnl : (nums s).length = 64 := by rw [nums_length]; exact HSz.out
      obtain ⟨p0, hp0⟩ : ∃ p0, p0 = 4 * k := ⟨_, rfl⟩
      obtain ⟨p1, hp1⟩ : ∃ p1, p1 = p0 + 1 := ⟨_, rfl⟩
      obtain ⟨p2, hp2⟩ : ∃ p2, p2 = p0 + 2 := ⟨_, rfl⟩
      obtain ⟨p3, hp3⟩ : ∃ p3, p3 = p0 + 3 := ⟨_, rfl⟩
      have hsz := HSz.out
      have x0 := run_index s p0 (by omega)
      have x1 := run_index s p1 (by omega)
      have x2 := run_index s p2 (by omega)
      have x3 := run_index s p3 (by omega)
      have l0 := (nums_lt s).at (by omega) p0
      have l1 := (nums_lt s).at (by omega) p1
      have l2 := (nums_lt s).at (by omega) p2
      have l3 := (nums_lt s).at (by omega) p3
      have HW : Shy (wordAt (nums s) (4 * k) = be (at0 (nums s) p0) (at0 (nums s) p1) (at0 (nums s) p2) (at0 (nums s) p3)) := ⟨by rw [wordAt, hp1, hp2, hp3, hp0]⟩
      generalize at0 (nums s) p0 = b0 at x0 l0 HW
      generalize at0 (nums s) p1 = b1 at x1 l1 HW
      generalize at0 (nums s) p2 = b2 at x2 l2 HW
      generalize at0 (nums s) p3 = b3 at x3 l3 HW
      obtain ⟨m0, hm0⟩ : ∃ m0, m0 = b0 * 16777216 := ⟨_, rfl⟩
      obtain ⟨m1, hm1⟩ : ∃ m1, m1 = b1 * 65536 := ⟨_, rfl⟩
      obtain ⟨s1, hs1⟩ : ∃ s1, s1 = m0 + m1 := ⟨_, rfl⟩
      obtain ⟨m2, hm2⟩ : ∃ m2, m2 = b2 * 256 := ⟨_, rfl⟩
      obtain ⟨s2, hs2⟩ : ∃ s2, s2 = s1 + m2 := ⟨_, rfl⟩
      obtain ⟨s3, hs3⟩ : ∃ s3, s3 = s2 + b3 := ⟨_, rfl⟩
      have HS3 : Shy (wordAt (nums s) (4 * k) = s3) := ⟨by rw [HW.out, hs3, hs2, hm2, hs1, hm1, hm0]; rfl⟩
      have e0 : 4 * (k : Int) = (p0 : Int) := by omega
      have w0 : IntKind.i64.wrap (p0 : Int) = (p0 : Int) := by rw [IntKind.wrap_i64]; omega
      have e1 : (p0 : Int) + 1 = (p1 : Int) := by omega
      have w1 : IntKind.i64.wrap (p1 : Int) = (p1 : Int) := by rw [IntKind.wrap_i64]; omega
      have e2 : (p0 : Int) + 2 = (p2 : Int) := by omega
      have w2 : IntKind.i64.wrap (p2 : Int) = (p2 : Int) := by rw [IntKind.wrap_i64]; omega
      have e3 : (p0 : Int) + 3 = (p3 : Int) := by omega
      have w3 : IntKind.i64.wrap (p3 : Int) = (p3 : Int) := by rw [IntKind.wrap_i64]; omega
      have f0 : (b0 : Int) * 16777216 = (m0 : Int) := by omega
      have g0 : IntKind.u32.wrap (m0 : Int) = (m0 : Int) := by rw [IntKind.wrap_u32]; omega
      have f1 : (b1 : Int) * 65536 = (m1 : Int) := by omega
      have g1 : IntKind.u32.wrap (m1 : Int) = (m1 : Int) := by rw [IntKind.wrap_u32]; omega
      have f2 : (m0 : Int) + (m1 : Int) = (s1 : Int) := by omega
      have g2 : IntKind.u32.wrap (s1 : Int) = (s1 : Int) := by rw [IntKind.wrap_u32]; omega
      have f3 : (b2 : Int) * 256 = (m2 : Int) := by omega
      have g3 : IntKind.u32.wrap (m2 : Int) = (m2 : Int) := by rw [IntKind.wrap_u32]; omega
      have f4 : (s1 : Int) + (m2 : Int) = (s2 : Int) := by omega
      have g4 : IntKind.u32.wrap (s2 : Int) = (s2 : Int) := by rw [IntKind.wrap_u32]; omega
      have f5 : (s2 : Int) + (b3 : Int) = (s3 : Int) := by omega
      have g5 : IntKind.u32.wrap (s3 : Int) = (s3 : Int) := by rw [IntKind.wrap_u32]; omega
      have c0 : IntKind.u32.wrap (b0 : Int) = (b0 : Int) := by rw [IntKind.wrap_u32]; omega
      have c1 : IntKind.u32.wrap (b1 : Int) = (b1 : Int) := by rw [IntKind.wrap_u32]; omega
      have c2 : IntKind.u32.wrap (b2 : Int) = (b2 : Int) := by rw [IntKind.wrap_u32]; omega
      have c3 : IntKind.u32.wrap (b3 : Int) = (b3 : Int) := by rw [IntKind.wrap_u32]; omega
      clear ho hb hlen hp0 hp1 hp2 hp3 hm0 hm1 hs1 hm2 hs2 hs3 HW hnl hsz
      go_upto_region 5 with (fail)
      refine wp_region_held_drew (S := fun w' => Below w.heap.size w w') (by kernel_rfl) (HB.out.drew) (fun hS => ?_)
      refine take_at 0 27 (.slice a k c) rfl rfl (by kernel_rfl) (by kernel_rfl) (by kernel_rfl) (fun _ _ _ h => h) rfl (fun w hSw => by clear hSw; go_simp) hS ?_
      simp only [List.setIfInBounds_toArray, List.set_cons_zero, List.set_cons_succ]
      refine take_at 1 28 (.string s) rfl rfl (by kernel_rfl) (by kernel_rfl) (by kernel_rfl) (fun _ _ _ h => h) rfl (fun w hSw => by clear hSw; go_simp) hS ?_
      simp only [List.setIfInBounds_toArray, List.set_cons_zero, List.set_cons_succ]
      refine take_at 2 29 (.int .i64 (k : Int)) rfl rfl (by kernel_rfl) (by kernel_rfl) (by kernel_rfl) (fun _ _ _ h => h) rfl (fun w hSw => by clear hSw; go_simp) hS ?_
      simp only [List.setIfInBounds_toArray, List.set_cons_zero, List.set_cons_succ]
      refine take_at 3 30 (.int .i64 (p0 : Int)) rfl rfl (by kernel_rfl) (by kernel_rfl) (by kernel_rfl) (fun _ _ _ h => h) rfl (fun w hSw => by clear hSw; go_simp) hS ?_
      simp only [List.setIfInBounds_toArray, List.set_cons_zero, List.set_cons_succ]
      refine take_at 4 31 (.int .u8 (b0 : Int)) rfl rfl (by kernel_rfl) (by kernel_rfl) (by kernel_rfl) (fun _ _ _ h => h) rfl (fun w hSw => by clear hSw; go_simp) hS ?_
      simp only [List.setIfInBounds_toArray, List.set_cons_zero, List.set_cons_succ]
      refine take_at 5 32 (.int .u32 (b0 : Int)) rfl rfl (by kernel_rfl) (by kernel_rfl) (by kernel_rfl) (fun _ _ _ h => h) rfl (fun w hSw => by clear hSw; go_simp) hS ?_
      simp only [List.setIfInBounds_toArray, List.set_cons_zero, List.set_cons_succ]
      refine take_at 6 33 (.int .u32 (m0 : Int)) rfl rfl (by kernel_rfl) (by kernel_rfl) (by kernel_rfl) (fun _ _ _ h => h) rfl (fun w hSw => by clear hSw; go_simp) hS ?_
      simp only [List.setIfInBounds_toArray, List.set_cons_zero, List.set_cons_succ]
      refine take_at 7 34 (.string s) rfl rfl (by kernel_rfl) (by kernel_rfl) (by kernel_rfl) (fun _ _ _ h => h) rfl (fun w hSw => by clear hSw; go_simp) hS ?_
      simp only [List.setIfInBounds_toArray, List.set_cons_zero, List.set_cons_succ]
      refine take_at 8 35 (.int .i64 (k : Int)) rfl rfl (by kernel_rfl) (by kernel_rfl) (by kernel_rfl) (fun _ _ _ h => h) rfl (fun w hSw => by clear hSw; go_simp) hS ?_
      simp only [List.setIfInBounds_toArray, List.set_cons_zero, List.set_cons_succ]
      refine take_at 9 36 (.int .i64 (p0 : Int)) rfl rfl (by kernel_rfl) (by kernel_rfl) (by kernel_rfl) (fun _ _ _ h => h) rfl (fun w hSw => by clear hSw; go_simp) hS ?_
      simp only [List.setIfInBounds_toArray, List.set_cons_zero, List.set_cons_succ]
      refine take_at 10 37 (.int .i64 (p1 : Int)) rfl rfl (by kernel_rfl) (by kernel_rfl) (by kernel_rfl) (fun _ _ _ h => h) rfl (fun w hSw => by clear hSw; go_simp) hS ?_
      simp only [List.setIfInBounds_toArray, List.set_cons_zero, List.set_cons_succ]
      refine take_at 11 38 (.int .u8 (b1 : Int)) rfl rfl (by kernel_rfl) (by kernel_rfl) (by kernel_rfl) (fun _ _ _ h => h) rfl (fun w hSw => by clear hSw; go_simp) hS ?_
      simp only [List.setIfInBounds_toArray, List.set_cons_zero, List.set_cons_succ]
      refine take_at 12 39 (.int .u32 (b1 : Int)) rfl rfl (by kernel_rfl) (by kernel_rfl) (by kernel_rfl) (fun _ _ _ h => h) rfl (fun w hSw => by clear hSw; go_simp) hS ?_
      simp only [List.setIfInBounds_toArray, List.set_cons_zero, List.set_cons_succ]
      refine take_at 13 40 (.int .u32 (m1 : Int)) rfl rfl (by kernel_rfl) (by kernel_rfl) (by kernel_rfl) (fun _ _ _ h => h) rfl (fun w hSw => by clear hSw; go_simp) hS ?_
      simp only [List.setIfInBounds_toArray, List.set_cons_zero, List.set_cons_succ]
      refine take_at 14 41 (.int .u32 (s1 : Int)) rfl rfl (by kernel_rfl) (by kernel_rfl) (by kernel_rfl) (fun _ _ _ h => h) rfl (fun w hSw => by clear hSw; go_simp) hS ?_
      simp only [List.setIfInBounds_toArray, List.set_cons_zero, List.set_cons_succ]
      refine take_at 15 42 (.string s) rfl rfl (by kernel_rfl) (by kernel_rfl) (by kernel_rfl) (fun _ _ _ h => h) rfl (fun w hSw => by clear hSw; go_simp) hS ?_
      simp only [List.setIfInBounds_toArray, List.set_cons_zero, List.set_cons_succ]
      refine take_at 16 43 (.int .i64 (k : Int)) rfl rfl (by kernel_rfl) (by kernel_rfl) (by kernel_rfl) (fun _ _ _ h => h) rfl (fun w hSw => by clear hSw; go_simp) hS ?_
      simp only [List.setIfInBounds_toArray, List.set_cons_zero, List.set_cons_succ]
      refine take_at 17 44 (.int .i64 (p0 : Int)) rfl rfl (by kernel_rfl) (by kernel_rfl) (by kernel_rfl) (fun _ _ _ h => h) rfl (fun w hSw => by clear hSw; go_simp) hS ?_
      simp only [List.setIfInBounds_toArray, List.set_cons_zero, List.set_cons_succ]
      refine take_at 18 45 (.int .i64 (p2 : Int)) rfl rfl (by kernel_rfl) (by kernel_rfl) (by kernel_rfl) (fun _ _ _ h => h) rfl (fun w hSw => by clear hSw; go_simp) hS ?_
      simp only [List.setIfInBounds_toArray, List.set_cons_zero, List.set_cons_succ]
      refine take_at 19 46 (.int .u8 (b2 : Int)) rfl rfl (by kernel_rfl) (by kernel_rfl) (by kernel_rfl) (fun _ _ _ h => h) rfl (fun w hSw => by clear hSw; go_simp) hS ?_
      simp only [List.setIfInBounds_toArray, List.set_cons_zero, List.set_cons_succ]
      refine take_at 20 47 (.int .u32 (b2 : Int)) rfl rfl (by kernel_rfl) (by kernel_rfl) (by kernel_rfl) (fun _ _ _ h => h) rfl (fun w hSw => by clear hSw; go_simp) hS ?_
      simp only [List.setIfInBounds_toArray, List.set_cons_zero, List.set_cons_succ]
      refine take_at 21 48 (.int .u32 (m2 : Int)) rfl rfl (by kernel_rfl) (by kernel_rfl) (by kernel_rfl) (fun _ _ _ h => h) rfl (fun w hSw => by clear hSw; go_simp) hS ?_
      simp only [List.setIfInBounds_toArray, List.set_cons_zero, List.set_cons_succ]
      refine take_at 22 49 (.int .u32 (s2 : Int)) rfl rfl (by kernel_rfl) (by kernel_rfl) (by kernel_rfl) (fun _ _ _ h => h) rfl (fun w hSw => by clear hSw; go_simp) hS ?_
      simp only [List.setIfInBounds_toArray, List.set_cons_zero, List.set_cons_succ]
      refine take_at 23 50 (.string s) rfl rfl (by kernel_rfl) (by kernel_rfl) (by kernel_rfl) (fun _ _ _ h => h) rfl (fun w hSw => by clear hSw; go_simp) hS ?_
      simp only [List.setIfInBounds_toArray, List.set_cons_zero, List.set_cons_succ]
      refine take_at 24 51 (.int .i64 (k : Int)) rfl rfl (by kernel_rfl) (by kernel_rfl) (by kernel_rfl) (fun _ _ _ h => h) rfl (fun w hSw => by clear hSw; go_simp) hS ?_
      simp only [List.setIfInBounds_toArray, List.set_cons_zero, List.set_cons_succ]
      refine take_at 25 52 (.int .i64 (p0 : Int)) rfl rfl (by kernel_rfl) (by kernel_rfl) (by kernel_rfl) (fun _ _ _ h => h) rfl (fun w hSw => by clear hSw; go_simp) hS ?_
      simp only [List.setIfInBounds_toArray, List.set_cons_zero, List.set_cons_succ]
      refine take_at 26 53 (.int .i64 (p3 : Int)) rfl rfl (by kernel_rfl) (by kernel_rfl) (by kernel_rfl) (fun _ _ _ h => h) rfl (fun w hSw => by clear hSw; go_simp) hS ?_
      simp only [List.setIfInBounds_toArray, List.set_cons_zero, List.set_cons_succ]
      refine take_at 27 54 (.int .u8 (b3 : Int)) rfl rfl (by kernel_rfl) (by kernel_rfl) (by kernel_rfl) (fun _ _ _ h => h) rfl (fun w hSw => by clear hSw; go_simp) hS ?_
      simp only [List.setIfInBounds_toArray, List.set_cons_zero, List.set_cons_succ]
      refine take_at 28 55 (.int .u32 (b3 : Int)) rfl rfl (by kernel_rfl) (by kernel_rfl) (by kernel_rfl) (fun _ _ _ h => h) rfl (fun w hSw => by clear hSw; go_simp) hS ?_
      simp only [List.setIfInBounds_toArray, List.set_cons_zero, List.set_cons_succ]
      refine take_at 29 56 (.int .u32 (s3 : Int)) rfl rfl (by kernel_rfl) (by kernel_rfl) (by kernel_rfl) (fun _ _ _ h => h) rfl (fun w hSw => by clear hSw; go_simp) hS ?_
      simp only [List.setIfInBounds_toArray, List.set_cons_zero, List.set_cons_succ]
      refine wpAnyH_ready (rs := [30]) (by kernel_rfl) (by simp) ?_
      refine AllReadyH.cons (o := { dst := some 57, op := .buildSlice 140 1 #[(0, .tmp 56)], type := 140, pos := "ref.go:89", after := #[{ on := 29, ground := .data }], guard := none }) rfl (fun K hK => ?_) AllReadyH.nil
      go_simp
      refine hK.out _ _ (HB.out.drew.alloc HB.out.size _) (fun hS' => ?_)
      replace hS := hS'
      clear hK K hS'
      try simp only [Act.put, List.setIfInBounds_toArray, List.set_cons_zero, List.set_cons_succ]
      refine wpAnyH_ready (rs := [31]) (by kernel_rfl) (by simp) ?_
      refine AllReadyH.cons (o := { dst := some 58, op := .call { callee := .builtin .append, args := #[.tmp 27, .tmp 57], argTypes := #[140, 140] }, type := 140, pos := "ref.go:89", after := #[{ on := 0, ground := .data }, { on := 30, ground := .data }], guard := none }) rfl (fun K hK => ?_) AllReadyH.nil
      refine step_append_lies _ rfl (.tmp 27) (.tmp 57) 140 rfl w.heap.size 85 i0 (.int .u32 0) 1 4 Tryd.underlying140 hi hz0 hz1 hz2 rfl (by decide) (.slice a k c) k (u32s ((wordsOf (nums s)).take k)) rfl (HO.out.drew.alloc _) ⟨wr.heap.size, 0, none⟩ 1 1 [.int .u32 (s3 : Int)] rfl rfl (cell_one_new _ _ _) (fun x hx => by simp at hx; subst hx; rfl) (by omega) (by unfold maxLen; omega) (by omega) (by have := HB.out.size; simp; omega) _ rfl ?_
      intro g6 cap6 w6 ro6 gr6 wh6 lt6
      have hb6 : Below w.heap.size w w6 := hS.grown gr6 (by have := HB.out.size; simp; omega) (fun k hk => (HO.out.lt k hk).1)
      refine hK.out _ _ hb6 (fun hS' => ?_)
      replace hS := hS'
      clear hK K hS'
      try simp only [Act.put, List.setIfInBounds_toArray, List.set_cons_zero, List.set_cons_succ]
      refine take_at 32 7 (.slice (some ⟨g6, 0, none⟩) (k + 1) cap6) rfl rfl (by kernel_rfl) (by kernel_rfl) (by kernel_rfl) (fun _ _ _ h => h) rfl (fun w hSw => by clear hSw; go_simp) hS ?_
      simp only [List.setIfInBounds_toArray, List.set_cons_zero, List.set_cons_succ]
      refine wpAnyH_done (by kernel_rfl) ?_ _
      go_wp2
      go_roundw
      case rel =>
        refine ⟨k + 1, by omega, by go_num, ?_, hb6⟩
        rw [HN.out, HS3.out]
        unfold Own32
        rw [List.length_append, Hlen.out]
        have e : u32s ((wordsOf (nums s)).take k ++ [s3]) = u32s ((wordsOf (nums s)).take k) ++ [Value.int .u32 (s3 : Int)] := by simp [u32s]
        rw [e]
        exact ro6
      case measure => simp [intOf]; omega
    · have : k = 16 := by omega
      subst this
      have hW16 : (wordsOf (nums s)).take 16 = wordsOf (nums s) := List.take_of_length_le (by rw [wordsOf_length]; omega)
      rw [hW16] at ho
      rw [hlen]
      have n16 : ((16 : Nat) : Int) = 16 := rfl
      rw [n16]
      clear n16
      have HO16 := hide1 ho
      have HB16 := hide1 hb
      clear hlen hW16 ho hb
      go_wp2
      go_loopw [7, 9] (fun v7 v9 wr => ∃ n : Nat, n ≤ 48 ∧ v9 = .int .i64 (16 + n : Nat) ∧ Own32 w.heap.size wr v7 (sched (wordsOf (nums s)) n) ∧ Below w.heap.size w wr) (fun _ v9 _ => 64 - (intOf v9).toNat)
      case atStart =>
        refine ⟨0, Nat.zero_le _, rfl, ?_, HB16.out⟩
        have e := wordsOf_length (nums s)
        have h := HO16.out
        unfold Own32 at h
        unfold Own32
        rw [e] at h
        show World.ownsRow _ _ _ _ _ (wordsOf (nums s)).length _
        rw [e]
        exact h
      case round =>
        obtain ⟨n, hn, rfl, ho, hb⟩ := hrel
        clear HO16 HB16
        have hl := sched_length (wordsOf (nums s)) n
        rw [wordsOf_length] at hl
        unfold Own32 at ho
        obtain ⟨k, hk⟩ : ∃ k, k = 16 + n := ⟨_, rfl⟩
        rw [← hk] at hl
        rw [hl] at ho
        obtain ⟨g, c, rfl, hg0, hg1⟩ := ho.form (by omega)
        have hc : ∀ j, j < k → ∀ w' : World, (∀ i u, (u32s (sched (wordsOf (nums s)) n))[i]? = some u → w'.cell? ⟨g, i, none⟩ = some u) → w'.cell? ⟨g, j, none⟩ = some (.int .u32 (at0 (sched (wordsOf (nums s)) n) j : Nat)) := fun j hj w' h => h j _ (by rw [u32s, List.getElem?_map, get_at0 (by omega)]; rfl)
        have hown : ∀ i u, (u32s (sched (wordsOf (nums s)) n))[i]? = some u → wr.cell? ⟨g, i, none⟩ = some u := fun i u h => by
          have := ho.cells (g := g) rfl i u h
          rw [Addr.add_lit, Nat.zero_add] at this
          exact this
        have HO := hide1 ho
        have HB := hide1 hb
        have HC := hide1 hc
        have HW := hide1 hown
        have HL : Shy ((sched (wordsOf (nums s)) n).length = k) := ⟨hl⟩
        have HK : Shy (k = 16 + n) := ⟨hk⟩
        rw [← hk]
        by_cases hlt : n < 48
        · have hk1 : 16 ≤ k := by omega
          have hk2 : k < 64 := by omega
          have c15 := hc (k - 15) (by omega) wr hown
          have c2 := hc (k - 2) (by omega) wr hown
          have x16 := hc (k - 16) (by omega) wr hown
          have x7 := hc (k - 7) (by omega) wr hown
          have HLt := hide1 (sched_lt (wordsOf_lt (nums_lt s)) n)
          have bx := HLt.out.at (by omega) (k - 15)
          have hby := HLt.out.at (by omega) (k - 2)
          have HN : Shy (nextW (sched (wordsOf (nums s)) n) = (at0 (sched (wordsOf (nums s)) n) (k - 16) + gs0 (at0 (sched (wordsOf (nums s)) n) (k - 15)) + at0 (sched (wordsOf (nums s)) n) (k - 7) + gs1 (at0 (sched (wordsOf (nums s)) n) (k - 2))) % 4294967296) := ⟨by
            rw [← hl]
            rfl⟩
          have HC16 : Shy (∀ w' : World, (∀ i u, (u32s (sched (wordsOf (nums s)) n))[i]? = some u → w'.cell? ⟨g, i, none⟩ = some u) → w'.cell? ⟨g, k - 16, none⟩ = some (.int .u32 (at0 (sched (wordsOf (nums s)) n) (k - 16) : Nat)) ∧ w'.cell? ⟨g, k - 7, none⟩ = some (.int .u32 (at0 (sched (wordsOf (nums s)) n) (k - 7) : Nat))) := ⟨fun w' h => ⟨hc _ (by omega) w' h, hc _ (by omega) w' h⟩⟩
          generalize at0 (sched (wordsOf (nums s)) n) (k - 15) = x at c15 bx HN
          generalize at0 (sched (wordsOf (nums s)) n) (k - 2) = y at c2 hby HN
          generalize at0 (sched (wordsOf (nums s)) n) (k - 16) = p at x16 HN HC16
          generalize at0 (sched (wordsOf (nums s)) n) (k - 7) = r at x7 HN HC16
          clear ho hb hk hl hc hown HC
          go_wp2
          go_quiet (fail)
          clear c15 c2
          go_wp2
          obtain ⟨X, hX⟩ : ∃ X, wr.drewN nq = X := ⟨_, rfl⟩
          have HOX : Hid (X.ownsRow w.heap.size 85 1 (.slice (some ⟨g, 0, none⟩) k c) k (u32s (sched (wordsOf (nums s)) n))) := by rw [← hX]; exact HO.out
          have HBX : Hid (Below w.heap.size w X) := by rw [← hX]; exact below_drewN' HB.out _
          have x16' : X.cell? ⟨g, k - 16, none⟩ = some (.int .u32 (p : Int)) := by rw [← hX]; exact x16
          have x7' : X.cell? ⟨g, k - 7, none⟩ = some (.int .u32 (r : Int)) := by rw [← hX]; exact x7
          have hgX : g < X.heap.size := by rw [← hX]; exact hg1
          rw [hX]
          clear hX x16 x7 HO HB HW hg1
          obtain ⟨k16, hk16⟩ : ∃ k16, k16 = k - 16 := ⟨_, rfl⟩
          obtain ⟨k7, hk7⟩ : ∃ k7, k7 = k - 7 := ⟨_, rfl⟩
          have e16 : (k : Int) - 16 = (k16 : Int) := by omega
          have e7 : (k : Int) - 7 = (k7 : Int) := by omega
          have w16 : IntKind.i64.wrap (k16 : Int) = (k16 : Int) := by rw [IntKind.wrap_i64]; omega
          have w7 : IntKind.i64.wrap (k7 : Int) = (k7 : Int) := by rw [IntKind.wrap_i64]; omega
          have l16 : (k16 : Int) < (k : Int) := by omega
          have l7 : (k7 : Int) < (k : Int) := by omega
          have m16 : k16 < k := by omega
          have m7 : k7 < k := by omega
          rw [← hk16] at x16' HC16
          rw [← hk7] at x7' HC16
          have R7 := fun w => hide1 (right_i x 7 w (by decide) (by decide) bx)
          have R18 := fun w => hide1 (right_i x 18 w (by decide) (by decide) bx)
          have R17 := fun w => hide1 (right_i y 17 w (by decide) (by decide) hby)
          have R19 := fun w => hide1 (right_i y 19 w (by decide) (by decide) hby)
          have z7 : (7 : Int).toNat = 7 := rfl
          have z18 : (18 : Int).toNat = 18 := rfl
          have z17 : (17 : Int).toNat = 17 := rfl
          have z19 : (19 : Int).toNat = 19 := rfl
          rw [z7] at R7
          rw [z18] at R18
          rw [z17] at R17
          rw [z19] at R19
          have HN2 : Shy (nextW (sched (wordsOf (nums s)) n) = (p + (rot 7 x ^^^ rot 18 x ^^^ x / 8) + r + (rot 17 y ^^^ rot 19 y ^^^ y / 1024)) % 4294967296) := ⟨HN.out⟩
          have t7 := rot_lt (n := 7) bx
          have t18 := rot_lt (n := 18) bx
          have t17 := rot_lt (n := 17) hby
          have t19 := rot_lt (n := 19) hby
          generalize rot 7 x = r7 at R7 t7 HN2
          generalize rot 18 x = r18 at R18 t18 HN2
          generalize rot 17 y = r17 at R17 t17 HN2
          generalize rot 19 y = r19 at R19 t19 HN2
          obtain ⟨x8, hx8⟩ : ∃ x8, x8 = x / 8 := ⟨_, rfl⟩
          obtain ⟨y10, hy10⟩ : ∃ y10, y10 = y / 1024 := ⟨_, rfl⟩
          have d8 : (x : Int) / 8 = (x8 : Int) := by omega
          have d10 : (y : Int) / 1024 = (y10 : Int) := by omega
          have d8' : Int.tdiv (x : Int) 8 = (x8 : Int) := by rw [Int.tdiv_eq_ediv_of_nonneg (by omega)]; exact d8
          have d10' : Int.tdiv (y : Int) 1024 = (y10 : Int) := by rw [Int.tdiv_eq_ediv_of_nonneg (by omega)]; exact d10
          have v8 : IntKind.u32.wrap (x8 : Int) = (x8 : Int) := by rw [IntKind.wrap_u32]; omega
          have v10 : IntKind.u32.wrap (y10 : Int) = (y10 : Int) := by rw [IntKind.wrap_u32]; omega
          rw [← hx8, ← hy10] at HN2
          have t8 : x8 < 4294967296 := by omega
          have t10 : y10 < 4294967296 := by omega
          clear hx8 hy10 hk16 hk7 z7 z18 z17 z19 HN
          obtain ⟨q1, hq1⟩ : ∃ q1, q1 = r7 ^^^ r18 := ⟨_, rfl⟩
          have u1 : bits .xor .u32 (r7 : Int) (r18 : Int) = (q1 : Int) := by rw [hq1]; exact u32_xor_nat _ _ t7 t18
          have tq1 : q1 < 4294967296 := by rw [hq1]; exact xor_lt t7 t18
          rw [← hq1] at HN2
          obtain ⟨q2, hq2⟩ : ∃ q2, q2 = q1 ^^^ x8 := ⟨_, rfl⟩
          have u2 : bits .xor .u32 (q1 : Int) (x8 : Int) = (q2 : Int) := by rw [hq2]; exact u32_xor_nat _ _ tq1 t8
          rw [← hq2] at HN2
          obtain ⟨q3, hq3⟩ : ∃ q3, q3 = r17 ^^^ r19 := ⟨_, rfl⟩
          have u3 : bits .xor .u32 (r17 : Int) (r19 : Int) = (q3 : Int) := by rw [hq3]; exact u32_xor_nat _ _ t17 t19
          have tq3 : q3 < 4294967296 := by rw [hq3]; exact xor_lt t17 t19
          rw [← hq3] at HN2
          obtain ⟨q4, hq4⟩ : ∃ q4, q4 = q3 ^^^ y10 := ⟨_, rfl⟩
          have u4 : bits .xor .u32 (q3 : Int) (y10 : Int) = (q4 : Int) := by rw [hq4]; exact u32_xor_nat _ _ tq3 t10
          rw [← hq4] at HN2
          obtain ⟨s1, hs1⟩ : ∃ s1, s1 = (p + q2) % 4294967296 := ⟨_, rfl⟩
          obtain ⟨s2, hs2⟩ : ∃ s2, s2 = (s1 + r) % 4294967296 := ⟨_, rfl⟩
          obtain ⟨s3, hs3⟩ : ∃ s3, s3 = (s2 + q4) % 4294967296 := ⟨_, rfl⟩
          have a1 : IntKind.u32.wrap ((p : Int) + (q2 : Int)) = (s1 : Int) := by rw [wrap32_add, hs1]
          have a2 : IntKind.u32.wrap ((s1 : Int) + (r : Int)) = (s2 : Int) := by rw [wrap32_add, hs2]
          have a3 : IntKind.u32.wrap ((s2 : Int) + (q4 : Int)) = (s3 : Int) := by rw [wrap32_add, hs3]
          have HN3 : Shy (nextW (sched (wordsOf (nums s)) n) = s3) := ⟨by rw [HN2.out]; omega⟩
          clear HN2 hs1 hs2 hs3 hq1 hq2 hq3 hq4 t7 t18 t17 t19 t8 t10 tq1 tq3 bx hby
          refine wp_region_held_drew (S := fun w' => Below w.heap.size w w' ∧ w'.cell? ⟨g, k16, none⟩ = some (.int .u32 (p : Int)) ∧ w'.cell? ⟨g, k7, none⟩ = some (.int .u32 (r : Int))) (by kernel_rfl) ⟨HBX.out.drew, x16', x7'⟩ (fun hS => ?_)
          refine take_at 0 73 (.slice (some ⟨g, 0, none⟩) k c) rfl rfl (by kernel_rfl) (by kernel_rfl) (by kernel_rfl) (fun _ _ _ h => h) rfl (fun w hSw => by clear hSw; go_simp) hS ?_
          simp only [List.setIfInBounds_toArray, List.set_cons_zero, List.set_cons_succ]
          refine take_at 1 74 (.slice (some ⟨g, 0, none⟩) k c) rfl rfl (by kernel_rfl) (by kernel_rfl) (by kernel_rfl) (fun _ _ _ h => h) rfl (fun w hSw => by clear hSw; go_simp) hS ?_
          simp only [List.setIfInBounds_toArray, List.set_cons_zero, List.set_cons_succ]
          refine take_at 2 75 (.int .i64 (k : Int)) rfl rfl (by kernel_rfl) (by kernel_rfl) (by kernel_rfl) (fun _ _ _ h => h) rfl (fun w hSw => by clear hSw; go_simp) hS ?_
          simp only [List.setIfInBounds_toArray, List.set_cons_zero, List.set_cons_succ]
          refine take_at 3 76 (.int .i64 (k16 : Int)) rfl rfl (by kernel_rfl) (by kernel_rfl) (by kernel_rfl) (fun _ _ _ h => h) rfl (fun w hSw => by clear hSw; go_simp) hS ?_
          simp only [List.setIfInBounds_toArray, List.set_cons_zero, List.set_cons_succ]
          refine take_at 4 77 (.pointer (some ⟨g, k16, none⟩)) rfl rfl (by kernel_rfl) (by kernel_rfl) (by kernel_rfl) (fun _ _ _ h => h) rfl (fun w hSw => by clear hSw; go_simp) hS ?_
          simp only [List.setIfInBounds_toArray, List.set_cons_zero, List.set_cons_succ]
          refine take_at 5 78 (.int .u32 (p : Int)) rfl rfl (by kernel_rfl) (by kernel_rfl) (by kernel_rfl) (fun _ _ _ h => h) rfl (fun w hSw => by have h1 := hSw.2.1; clear hSw; go_simp) hS ?_
          simp only [List.setIfInBounds_toArray, List.set_cons_zero, List.set_cons_succ]
          refine take_at 6 79 (.int .u32 (x : Int)) rfl rfl (by kernel_rfl) (by kernel_rfl) (by kernel_rfl) (fun _ _ _ h => h) rfl (fun w hSw => by clear hSw; go_simp) hS ?_
          simp only [List.setIfInBounds_toArray, List.set_cons_zero, List.set_cons_succ]
          refine take_at 8 81 (.int .u32 (x : Int)) rfl rfl (by kernel_rfl) (by kernel_rfl) (by kernel_rfl) (fun _ _ _ h => h) rfl (fun w hSw => by clear hSw; go_simp) hS ?_
          simp only [List.setIfInBounds_toArray, List.set_cons_zero, List.set_cons_succ]
          refine take_at 11 84 (.int .u32 (x : Int)) rfl rfl (by kernel_rfl) (by kernel_rfl) (by kernel_rfl) (fun _ _ _ h => h) rfl (fun w hSw => by clear hSw; go_simp) hS ?_
          simp only [List.setIfInBounds_toArray, List.set_cons_zero, List.set_cons_succ]
          refine take_at 12 85 (.int .u32 (x8 : Int)) rfl rfl (by kernel_rfl) (by kernel_rfl) (by kernel_rfl) (fun _ _ _ h => h) rfl (fun w hSw => by clear hSw; go_simp) hS ?_
          simp only [List.setIfInBounds_toArray, List.set_cons_zero, List.set_cons_succ]
          refine take_at 15 88 (.slice (some ⟨g, 0, none⟩) k c) rfl rfl (by kernel_rfl) (by kernel_rfl) (by kernel_rfl) (fun _ _ _ h => h) rfl (fun w hSw => by clear hSw; go_simp) hS ?_
          simp only [List.setIfInBounds_toArray, List.set_cons_zero, List.set_cons_succ]
          refine take_at 16 89 (.int .i64 (k : Int)) rfl rfl (by kernel_rfl) (by kernel_rfl) (by kernel_rfl) (fun _ _ _ h => h) rfl (fun w hSw => by clear hSw; go_simp) hS ?_
          simp only [List.setIfInBounds_toArray, List.set_cons_zero, List.set_cons_succ]
          refine take_at 17 90 (.int .i64 (k7 : Int)) rfl rfl (by kernel_rfl) (by kernel_rfl) (by kernel_rfl) (fun _ _ _ h => h) rfl (fun w hSw => by clear hSw; go_simp) hS ?_
          simp only [List.setIfInBounds_toArray, List.set_cons_zero, List.set_cons_succ]
          refine take_at 18 91 (.pointer (some ⟨g, k7, none⟩)) rfl rfl (by kernel_rfl) (by kernel_rfl) (by kernel_rfl) (fun _ _ _ h => h) rfl (fun w hSw => by clear hSw; go_simp) hS ?_
          simp only [List.setIfInBounds_toArray, List.set_cons_zero, List.set_cons_succ]
          refine take_at 19 92 (.int .u32 (r : Int)) rfl rfl (by kernel_rfl) (by kernel_rfl) (by kernel_rfl) (fun _ _ _ h => h) rfl (fun w hSw => by have h1 := hSw.2.2; clear hSw; go_simp) hS ?_
          simp only [List.setIfInBounds_toArray, List.set_cons_zero, List.set_cons_succ]
          refine take_at 21 94 (.int .u32 (y : Int)) rfl rfl (by kernel_rfl) (by kernel_rfl) (by kernel_rfl) (fun _ _ _ h => h) rfl (fun w hSw => by clear hSw; go_simp) hS ?_
          simp only [List.setIfInBounds_toArray, List.set_cons_zero, List.set_cons_succ]
          refine take_at 23 96 (.int .u32 (y : Int)) rfl rfl (by kernel_rfl) (by kernel_rfl) (by kernel_rfl) (fun _ _ _ h => h) rfl (fun w hSw => by clear hSw; go_simp) hS ?_
          simp only [List.setIfInBounds_toArray, List.set_cons_zero, List.set_cons_succ]
          refine take_at 26 99 (.int .u32 (y : Int)) rfl rfl (by kernel_rfl) (by kernel_rfl) (by kernel_rfl) (fun _ _ _ h => h) rfl (fun w hSw => by clear hSw; go_simp) hS ?_
          simp only [List.setIfInBounds_toArray, List.set_cons_zero, List.set_cons_succ]
          refine take_at 27 100 (.int .u32 (y10 : Int)) rfl rfl (by kernel_rfl) (by kernel_rfl) (by kernel_rfl) (fun _ _ _ h => h) rfl (fun w hSw => by clear hSw; go_simp) hS ?_
          simp only [List.setIfInBounds_toArray, List.set_cons_zero, List.set_cons_succ]
          refine wpAnyH_ready (rs := [7]) (by kernel_rfl) (by simp) ?_
          refine AllReadyH.cons (o := { dst := some 80, op := .call { callee := .value (.func 99), args := #[.tmp 79, .const (.int .u64 7)], argTypes := #[85, 116] }, type := 85, pos := "ref.go:93", after := #[{ on := 6, ground := .data }], guard := none }) rfl (fun K hK => ?_) AllReadyH.nil
          go_simp
          refine (R7 _).out.mono ?_
          rintro e w1 ⟨rfl, rfl⟩
          refine hK.out _ _ hS (fun hS' => ?_)
          replace hS := hS'
          clear hK K hS'
          try simp only [Act.put, List.setIfInBounds_toArray, List.set_cons_zero, List.set_cons_succ]
          refine wpAnyH_ready (rs := [9]) (by kernel_rfl) (by simp) ?_
          refine AllReadyH.cons (o := { dst := some 82, op := .call { callee := .value (.func 99), args := #[.tmp 81, .const (.int .u64 18)], argTypes := #[85, 116] }, type := 85, pos := "ref.go:93", after := #[{ on := 8, ground := .data }, { on := 7, ground := .chain }], guard := none }) rfl (fun K hK => ?_) AllReadyH.nil
          go_simp
          refine (R18 _).out.mono ?_
          rintro e w1 ⟨rfl, rfl⟩
          refine hK.out _ _ hS (fun hS' => ?_)
          replace hS := hS'
          clear hK K hS'
          try simp only [Act.put, List.setIfInBounds_toArray, List.set_cons_zero, List.set_cons_succ]
          refine take_at 10 83 (.int .u32 (q1 : Int)) rfl rfl (by kernel_rfl) (by kernel_rfl) (by kernel_rfl) (fun _ _ _ h => h) rfl (fun w hSw => by clear hSw; go_simp) hS ?_
          simp only [List.setIfInBounds_toArray, List.set_cons_zero, List.set_cons_succ]
          refine take_at 13 86 (.int .u32 (q2 : Int)) rfl rfl (by kernel_rfl) (by kernel_rfl) (by kernel_rfl) (fun _ _ _ h => h) rfl (fun w hSw => by clear hSw; go_simp) hS ?_
          simp only [List.setIfInBounds_toArray, List.set_cons_zero, List.set_cons_succ]
          refine take_at 14 87 (.int .u32 (s1 : Int)) rfl rfl (by kernel_rfl) (by kernel_rfl) (by kernel_rfl) (fun _ _ _ h => h) rfl (fun w hSw => by clear hSw; go_simp) hS ?_
          simp only [List.setIfInBounds_toArray, List.set_cons_zero, List.set_cons_succ]
          refine take_at 20 93 (.int .u32 (s2 : Int)) rfl rfl (by kernel_rfl) (by kernel_rfl) (by kernel_rfl) (fun _ _ _ h => h) rfl (fun w hSw => by clear hSw; go_simp) hS ?_
          simp only [List.setIfInBounds_toArray, List.set_cons_zero, List.set_cons_succ]
          refine wpAnyH_ready (rs := [22]) (by kernel_rfl) (by simp) ?_
          refine AllReadyH.cons (o := { dst := some 95, op := .call { callee := .value (.func 99), args := #[.tmp 94, .const (.int .u64 17)], argTypes := #[85, 116] }, type := 85, pos := "ref.go:93", after := #[{ on := 21, ground := .data }, { on := 9, ground := .chain }], guard := none }) rfl (fun K hK => ?_) AllReadyH.nil
          go_simp
          refine (R17 _).out.mono ?_
          rintro e w1 ⟨rfl, rfl⟩
          refine hK.out _ _ hS (fun hS' => ?_)
          replace hS := hS'
          clear hK K hS'
          try simp only [Act.put, List.setIfInBounds_toArray, List.set_cons_zero, List.set_cons_succ]
          refine wpAnyH_ready (rs := [24]) (by kernel_rfl) (by simp) ?_
          refine AllReadyH.cons (o := { dst := some 97, op := .call { callee := .value (.func 99), args := #[.tmp 96, .const (.int .u64 19)], argTypes := #[85, 116] }, type := 85, pos := "ref.go:93", after := #[{ on := 23, ground := .data }, { on := 22, ground := .chain }], guard := none }) rfl (fun K hK => ?_) AllReadyH.nil
          go_simp
          refine (R19 _).out.mono ?_
          rintro e w1 ⟨rfl, rfl⟩
          refine hK.out _ _ hS (fun hS' => ?_)
          replace hS := hS'
          clear hK K hS'
          try simp only [Act.put, List.setIfInBounds_toArray, List.set_cons_zero, List.set_cons_succ]
          refine take_at 25 98 (.int .u32 (q3 : Int)) rfl rfl (by kernel_rfl) (by kernel_rfl) (by kernel_rfl) (fun _ _ _ h => h) rfl (fun w hSw => by clear hSw; go_simp) hS ?_
          simp only [List.setIfInBounds_toArray, List.set_cons_zero, List.set_cons_succ]
          refine take_at 28 101 (.int .u32 (q4 : Int)) rfl rfl (by kernel_rfl) (by kernel_rfl) (by kernel_rfl) (fun _ _ _ h => h) rfl (fun w hSw => by clear hSw; go_simp) hS ?_
          simp only [List.setIfInBounds_toArray, List.set_cons_zero, List.set_cons_succ]
          refine take_at 29 102 (.int .u32 (s3 : Int)) rfl rfl (by kernel_rfl) (by kernel_rfl) (by kernel_rfl) (fun _ _ _ h => h) rfl (fun w hSw => by clear hSw; go_simp) hS ?_
          simp only [List.setIfInBounds_toArray, List.set_cons_zero, List.set_cons_succ]
          refine wpAnyH_ready (rs := [30]) (by kernel_rfl) (by simp) ?_
          refine AllReadyH.cons (o := { dst := some 103, op := .buildSlice 140 1 #[(0, .tmp 102)], type := 140, pos := "ref.go:93", after := #[{ on := 29, ground := .data }], guard := none }) rfl (fun K hK => ?_) AllReadyH.nil
          go_simp
          have hS2 : (X.drew.alloc (.cells #[.int .u32 (s3 : Int)] 85)).cell? ⟨g, k16, none⟩ = some (.int .u32 (p : Int)) ∧ (X.drew.alloc (.cells #[.int .u32 (s3 : Int)] 85)).cell? ⟨g, k7, none⟩ = some (.int .u32 (r : Int)) := ⟨(World.cell?_alloc_lt _ _ _ hgX).trans x16', (World.cell?_alloc_lt _ _ _ hgX).trans x7'⟩
          refine hK.out _ _ ⟨HBX.out.drew.alloc HBX.out.size _, hS2⟩ (fun hS' => ?_)
          replace hS := hS'
          clear hK K hS' hS2
          try simp only [Act.put, List.setIfInBounds_toArray, List.set_cons_zero, List.set_cons_succ]
          refine wpAnyH_ready (rs := [31]) (by kernel_rfl) (by simp) ?_
          refine AllReadyH.cons (o := { dst := some 104, op := .call { callee := .builtin .append, args := #[.tmp 73, .tmp 103], argTypes := #[140, 140] }, type := 140, pos := "ref.go:93", after := #[{ on := 0, ground := .data }, { on := 30, ground := .data }, { on := 24, ground := .chain }], guard := none }) rfl (fun K hK => ?_) AllReadyH.nil
          refine step_append_kept _ rfl (.tmp 73) (.tmp 103) 140 rfl w.heap.size 85 i0 (.int .u32 0) 1 4 Tryd.underlying140 hi hz0 hz1 hz2 rfl (by decide) g k c (u32s (sched (wordsOf (nums s)) n)) rfl (HOX.out.drew.alloc _) ⟨X.heap.size, 0, none⟩ 1 1 [.int .u32 (s3 : Int)] rfl rfl (cell_one_new _ _ _) (fun x hx => by simp at hx; subst hx; rfl) (by omega) (by unfold maxLen; omega) (by omega) (by have := HBX.out.size; simp; omega) ?_
          intro g6 cap6 w6 ro6 gr6 kp6
          have hb6 : Below w.heap.size w w6 := hS.1.grown gr6 (by have := HBX.out.size; simp; omega) (fun k hk => by have := HOX.out.lt k hk; exact this.1)
          refine hK.out _ _ ⟨hb6, HC16.out _ kp6⟩ (fun hS' => ?_)
          replace hS := hS'
          clear hK K hS'
          try simp only [Act.put, List.setIfInBounds_toArray, List.set_cons_zero, List.set_cons_succ]
          refine take_at 32 7 (.slice (some ⟨g6, 0, none⟩) (k + 1) cap6) rfl rfl (by kernel_rfl) (by kernel_rfl) (by kernel_rfl) (fun _ _ _ h => h) rfl (fun w hSw => by clear hSw; go_simp) hS ?_
          simp only [List.setIfInBounds_toArray, List.set_cons_zero, List.set_cons_succ]
          refine wpAnyH_done (by kernel_rfl) ?_ _
          go_wp2
          go_roundw
          case rel =>

            refine ⟨n + 1, by omega, by rw [HK.out]; go_num, ?_, hb6⟩
            unfold Own32
            have e : u32s (sched (wordsOf (nums s)) (n + 1)) = u32s (sched (wordsOf (nums s)) n) ++ [Value.int .u32 (s3 : Int)] := by rw [sched, HN3.out]; simp [u32s]
            have e2 : (sched (wordsOf (nums s)) (n + 1)).length = k + 1 := by rw [sched, List.length_append, HL.out]; rfl
            rw [e, e2]
            exact ro6
          case measure => simp [intOf]; omega
        · have : n = 48 := by omega
          subst this
          have hk64 : k = 64 := by omega
          subst hk64
          obtain ⟨gh, ch, rfl, hgh, hch⟩ := HH.out.val
          obtain ⟨gk, ck, rfl, hgk, hck⟩ := HKs.out.val
          rw [HLh.out] at hch HH ⊢
          rw [HLk.out] at hck HKs ⊢
          have n64 : ((64 : Nat) : Int) = 64 := rfl
          rw [n64]
          have HCh : Hid (∀ j, j < 8 → ∀ w' : World, Below w.heap.size w w' → w'.cell? ⟨gh, j, none⟩ = some (.int .u32 (at0 h j : Nat))) := fun j hj w' hb' => (hb'.cell (p := ⟨gh, j, none⟩) hgh).trans (hch j hj)
          have HCk : Hid (∀ j, j < 64 → ∀ w' : World, Below w.heap.size w w' → w'.cell? ⟨gk, j, none⟩ = some (.int .u32 (at0 ks j : Nat))) := fun j hj w' hb' => (hb'.cell (p := ⟨gk, j, none⟩) hgk).trans (hck j hj)
          have HCw : Hid (∀ j, j < 64 → wr.cell? ⟨g, j, none⟩ = some (.int .u32 (at0 (sched (wordsOf (nums s)) 48) j : Nat))) := fun j hj => hc j hj wr hown
          have d0 := HCh.out 0 (by omega) wr HB.out
          have d1 := HCh.out 1 (by omega) wr HB.out
          have d2 := HCh.out 2 (by omega) wr HB.out
          have d3 := HCh.out 3 (by omega) wr HB.out
          have d4 := HCh.out 4 (by omega) wr HB.out
          have d5 := HCh.out 5 (by omega) wr HB.out
          have d6 := HCh.out 6 (by omega) wr HB.out
          have d7 := HCh.out 7 (by omega) wr HB.out
          have HLt := hide1 (sched_lt (wordsOf_lt (nums_lt s)) 48)
          have HSO := hide1 (S8.of_ok HTh.out)
          clear ho hb hk hl hc hown HC HO HW hgh hch hgk hck n64 HL HK hg0 hg1
          obtain ⟨ws, hws⟩ : ∃ ws, ws = sched (wordsOf (nums s)) 48 := ⟨_, rfl⟩
          rw [← hws] at HCw HLt
          have HWS : Shy (sched (wordsOf (nums s)) 48 = ws) := ⟨hws.symm⟩
          clear hws
          go_wp2
          go_quiet (fail)
          clear d0 d1 d2 d3 d4 d5 d6 d7
          go_wp2
          obtain ⟨W, hW⟩ : ∃ W, wr.drewN nq = W := ⟨_, rfl⟩
          have HBW : Hid (Below w.heap.size w W) := by rw [← hW]; exact below_drewN' HB.out _
          have HCW : Hid (∀ j, j < 64 → W.cell? ⟨g, j, none⟩ = some (.int .u32 (at0 ws j : Nat))) := by rw [← hW]; exact HCw.out
          rw [hW]
          clear hW HB HCw
          go_loopw [12, 13, 14, 15, 16, 17, 18, 19, 20] (fun a b c d e f g h' i wr => ∃ k q : Nat, k ≤ 64 ∧ i = .int .i64 k ∧ wr = W.drewN q ∧ a = .int .u32 ((rnd ks ws (S8.of h) k).a : Nat) ∧ b = .int .u32 ((rnd ks ws (S8.of h) k).b : Nat) ∧ c = .int .u32 ((rnd ks ws (S8.of h) k).c : Nat) ∧ d = .int .u32 ((rnd ks ws (S8.of h) k).d : Nat) ∧ e = .int .u32 ((rnd ks ws (S8.of h) k).e : Nat) ∧ f = .int .u32 ((rnd ks ws (S8.of h) k).f : Nat) ∧ g = .int .u32 ((rnd ks ws (S8.of h) k).g : Nat) ∧ h' = .int .u32 ((rnd ks ws (S8.of h) k).h : Nat)) (fun _ _ _ _ _ _ _ _ i _ => 64 - (intOf i).toNat)
          case atStart => exact ⟨0, 0, Nat.zero_le _, rfl, rfl, rfl, rfl, rfl, rfl, rfl, rfl, rfl, rfl⟩
          case round =>
            obtain ⟨k, q, hk, rfl, rfl, rfl, rfl, rfl, rfl, rfl, rfl, rfl, rfl⟩ := hrel
            by_cases hlt : k < 64
            · have HO := hide1 (rnd_ok (ks := ks) (ws := ws) HSO.out k)
              have HN : Shy (rnd ks ws (S8.of h) (k + 1) = (rnd ks ws (S8.of h) k).step (at0 ks k) (at0 ws k)) := ⟨rfl⟩
              generalize rnd ks ws (S8.of h) k = st at HO HN
              obtain ⟨a1, b1, c1, d1, e1, f1, g1, h1⟩ := st
              have ha := HO.out.a
              have hb := HO.out.b
              have hc := HO.out.c
              have he := HO.out.e
              have hg := HO.out.g
              simp only at ha hb hc he hg
              have cr : W.cell? ⟨gk, k, none⟩ = some (.int .u32 (at0 ks k : Nat)) := HCk.out k hlt W HBW.out
              have cw := HCW.out k hlt
              generalize at0 ks k = rk at cr HN
              generalize at0 ws k = wk at cw HN
              obtain ⟨ne, hne⟩ : ∃ ne, ne = 4294967295 - e1 := ⟨_, rfl⟩
              have ene : 4294967295 - (e1 : Int) = (ne : Int) := by omega
              have wne : IntKind.u32.wrap (ne : Int) = (ne : Int) := by rw [IntKind.wrap_u32]; omega
              have mne : (ne : Int) % 4294967296 = (ne : Int) := by omega
              have Hne : Shy (ne = 4294967295 - e1) := ⟨hne⟩
              clear hne
              go_wp2_with fail
              obtain ⟨X, hX⟩ : ∃ X, W.drewN q = X := ⟨_, rfl⟩
              have cr' : X.cell? ⟨gk, k, none⟩ = some (.int .u32 (rk : Int)) := by rw [← hX]; exact cr
              have cw' : X.cell? ⟨g, k, none⟩ = some (.int .u32 (wk : Int)) := by rw [← hX]; exact cw
              rw [hX]
              have HX := hide1 hX
              clear hX cr cw
              go_quiet ((go_at_call 99; exact Calls.quiet_of_same (right_i _ _ _ (by decide) (by decide) (by assumption))))
              go_wp2_with (go_at_call 99; refine (right_i _ _ _ (by decide) (by decide) (by assumption)).mono ?_; rintro e w' ⟨rfl, rfl⟩)
              go_roundw
              case rel =>
                have et := t_int2 _ HO.out rk wk ne Hne.out
                have eu := u_int2 _ HO.out
                simp only at et eu
                refine ⟨k + 1, q + nq, by omega, by go_num, by rw [← HX.out]; exact World.drewN_drewN _ _ _, ?_⟩
                rw [HN.out, et, eu, sum_int, sum_int]
                exact ⟨rfl, rfl, rfl, rfl, rfl, rfl, rfl, rfl⟩
              case measure => simp [intOf]; omega
            · have : k = 64 := by omega
              subst this
              have HZ := addW_list h (rnd ks ws (S8.of h) 64)
              have HP : Shy (comp ks h (wordsOf (nums s)) = addW h (rnd ks ws (S8.of h) 64).list) := ⟨by rw [comp, HWS.out]⟩
              obtain ⟨X, hX⟩ : ∃ X, W.drewN q = X := ⟨_, rfl⟩
              have HBX : Hid (Below w.heap.size w X) := by rw [← hX]; exact below_drewN' HBW.out _
              rw [hX]
              clear hX HBW HCW
              generalize rnd ks ws (S8.of h) 64 = st at HZ HP
              go_upto_region 19 with (fail)
              have HV0 : Hid (∀ w' : World, Below X.heap.size X w' → w'.cell? ⟨gh, 0, none⟩ = some (.int .u32 (at0 h 0 : Nat))) := fun w' hb' => HCh.out 0 (by omega) w' (HBX.out.trans (hb'.mono HBX.out.size))
              obtain ⟨z0, hz0'⟩ : ∃ z, z = (at0 h 0 + st.a) % 4294967296 := ⟨_, rfl⟩
              have a0 : IntKind.u32.wrap ((at0 h 0 : Nat) + (st.a : Nat)) = (z0 : Int) := by rw [wrap32_add, hz0']
              rw [← hz0'] at HZ
              clear hz0'
              generalize at0 h 0 = v0 at HV0 a0
              generalize st.a = y0 at a0 ⊢
              have HV1 : Hid (∀ w' : World, Below X.heap.size X w' → w'.cell? ⟨gh, 1, none⟩ = some (.int .u32 (at0 h 1 : Nat))) := fun w' hb' => HCh.out 1 (by omega) w' (HBX.out.trans (hb'.mono HBX.out.size))
              obtain ⟨z1, hz1'⟩ : ∃ z, z = (at0 h 1 + st.b) % 4294967296 := ⟨_, rfl⟩
              have a1 : IntKind.u32.wrap ((at0 h 1 : Nat) + (st.b : Nat)) = (z1 : Int) := by rw [wrap32_add, hz1']
              rw [← hz1'] at HZ
              clear hz1'
              generalize at0 h 1 = v1 at HV1 a1
              generalize st.b = y1 at a1 ⊢
              have HV2 : Hid (∀ w' : World, Below X.heap.size X w' → w'.cell? ⟨gh, 2, none⟩ = some (.int .u32 (at0 h 2 : Nat))) := fun w' hb' => HCh.out 2 (by omega) w' (HBX.out.trans (hb'.mono HBX.out.size))
              obtain ⟨z2, hz2'⟩ : ∃ z, z = (at0 h 2 + st.c) % 4294967296 := ⟨_, rfl⟩
              have a2 : IntKind.u32.wrap ((at0 h 2 : Nat) + (st.c : Nat)) = (z2 : Int) := by rw [wrap32_add, hz2']
              rw [← hz2'] at HZ
              clear hz2'
              generalize at0 h 2 = v2 at HV2 a2
              generalize st.c = y2 at a2 ⊢
              have HV3 : Hid (∀ w' : World, Below X.heap.size X w' → w'.cell? ⟨gh, 3, none⟩ = some (.int .u32 (at0 h 3 : Nat))) := fun w' hb' => HCh.out 3 (by omega) w' (HBX.out.trans (hb'.mono HBX.out.size))
              obtain ⟨z3, hz3'⟩ : ∃ z, z = (at0 h 3 + st.d) % 4294967296 := ⟨_, rfl⟩
              have a3 : IntKind.u32.wrap ((at0 h 3 : Nat) + (st.d : Nat)) = (z3 : Int) := by rw [wrap32_add, hz3']
              rw [← hz3'] at HZ
              clear hz3'
              generalize at0 h 3 = v3 at HV3 a3
              generalize st.d = y3 at a3 ⊢
              have HV4 : Hid (∀ w' : World, Below X.heap.size X w' → w'.cell? ⟨gh, 4, none⟩ = some (.int .u32 (at0 h 4 : Nat))) := fun w' hb' => HCh.out 4 (by omega) w' (HBX.out.trans (hb'.mono HBX.out.size))
              obtain ⟨z4, hz4'⟩ : ∃ z, z = (at0 h 4 + st.e) % 4294967296 := ⟨_, rfl⟩
              have a4 : IntKind.u32.wrap ((at0 h 4 : Nat) + (st.e : Nat)) = (z4 : Int) := by rw [wrap32_add, hz4']
              rw [← hz4'] at HZ
              clear hz4'
              generalize at0 h 4 = v4 at HV4 a4
              generalize st.e = y4 at a4 ⊢
              have HV5 : Hid (∀ w' : World, Below X.heap.size X w' → w'.cell? ⟨gh, 5, none⟩ = some (.int .u32 (at0 h 5 : Nat))) := fun w' hb' => HCh.out 5 (by omega) w' (HBX.out.trans (hb'.mono HBX.out.size))
              obtain ⟨z5, hz5'⟩ : ∃ z, z = (at0 h 5 + st.f) % 4294967296 := ⟨_, rfl⟩
              have a5 : IntKind.u32.wrap ((at0 h 5 : Nat) + (st.f : Nat)) = (z5 : Int) := by rw [wrap32_add, hz5']
              rw [← hz5'] at HZ
              clear hz5'
              generalize at0 h 5 = v5 at HV5 a5
              generalize st.f = y5 at a5 ⊢
              have HV6 : Hid (∀ w' : World, Below X.heap.size X w' → w'.cell? ⟨gh, 6, none⟩ = some (.int .u32 (at0 h 6 : Nat))) := fun w' hb' => HCh.out 6 (by omega) w' (HBX.out.trans (hb'.mono HBX.out.size))
              obtain ⟨z6, hz6'⟩ : ∃ z, z = (at0 h 6 + st.g) % 4294967296 := ⟨_, rfl⟩
              have a6 : IntKind.u32.wrap ((at0 h 6 : Nat) + (st.g : Nat)) = (z6 : Int) := by rw [wrap32_add, hz6']
              rw [← hz6'] at HZ
              clear hz6'
              generalize at0 h 6 = v6 at HV6 a6
              generalize st.g = y6 at a6 ⊢
              have HV7 : Hid (∀ w' : World, Below X.heap.size X w' → w'.cell? ⟨gh, 7, none⟩ = some (.int .u32 (at0 h 7 : Nat))) := fun w' hb' => HCh.out 7 (by omega) w' (HBX.out.trans (hb'.mono HBX.out.size))
              obtain ⟨z7, hz7'⟩ : ∃ z, z = (at0 h 7 + st.h) % 4294967296 := ⟨_, rfl⟩
              have a7 : IntKind.u32.wrap ((at0 h 7 : Nat) + (st.h : Nat)) = (z7 : Int) := by rw [wrap32_add, hz7']
              rw [← hz7'] at HZ
              clear hz7'
              generalize at0 h 7 = v7 at HV7 a7
              generalize st.h = y7 at a7 ⊢
              have HZ' : Shy (comp ks h (wordsOf (nums s)) = [z0, z1, z2, z3, z4, z5, z6, z7]) := ⟨by rw [HP.out, HZ]⟩
              clear HZ HP
              refine wp_region_held_drew (S := fun w' => Below X.heap.size X w') (by kernel_rfl) ((Below.refl _ _).drew) (fun hS => ?_)
              refine take_at 0 194 (.slice (some ⟨gh, 0, none⟩) 8 ch) rfl rfl (by kernel_rfl) (by kernel_rfl) (by kernel_rfl) (fun _ _ _ h => h) rfl (fun w hSw => by clear hSw; go_simp) hS ?_
              simp only [List.setIfInBounds_toArray, List.set_cons_zero, List.set_cons_succ]
              refine take_at 1 195 (.pointer (some ⟨gh, 0, none⟩)) rfl rfl (by kernel_rfl) (by kernel_rfl) (by kernel_rfl) (fun _ _ _ h => h) rfl (fun w hSw => by clear hSw; go_simp) hS ?_
              simp only [List.setIfInBounds_toArray, List.set_cons_zero, List.set_cons_succ]
              refine take_at 2 196 (.int .u32 (v0 : Int)) rfl rfl (by kernel_rfl) (by kernel_rfl) (by kernel_rfl) (fun _ _ _ h => h) rfl (fun w hSw => by have h1 := HV0.out _ hSw; clear hSw; go_simp) hS ?_
              simp only [List.setIfInBounds_toArray, List.set_cons_zero, List.set_cons_succ]
              refine take_at 3 197 (.int .u32 (y0 : Int)) rfl rfl (by kernel_rfl) (by kernel_rfl) (by kernel_rfl) (fun _ _ _ h => h) rfl (fun w hSw => by clear hSw; go_simp) hS ?_
              simp only [List.setIfInBounds_toArray, List.set_cons_zero, List.set_cons_succ]
              refine take_at 4 198 (.int .u32 (z0 : Int)) rfl rfl (by kernel_rfl) (by kernel_rfl) (by kernel_rfl) (fun _ _ _ h => h) rfl (fun w hSw => by clear hSw; go_simp) hS ?_
              simp only [List.setIfInBounds_toArray, List.set_cons_zero, List.set_cons_succ]
              refine take_at 5 199 (.slice (some ⟨gh, 0, none⟩) 8 ch) rfl rfl (by kernel_rfl) (by kernel_rfl) (by kernel_rfl) (fun _ _ _ h => h) rfl (fun w hSw => by clear hSw; go_simp) hS ?_
              simp only [List.setIfInBounds_toArray, List.set_cons_zero, List.set_cons_succ]
              refine take_at 6 200 (.pointer (some ⟨gh, 1, none⟩)) rfl rfl (by kernel_rfl) (by kernel_rfl) (by kernel_rfl) (fun _ _ _ h => h) rfl (fun w hSw => by clear hSw; go_simp) hS ?_
              simp only [List.setIfInBounds_toArray, List.set_cons_zero, List.set_cons_succ]
              refine take_at 7 201 (.int .u32 (v1 : Int)) rfl rfl (by kernel_rfl) (by kernel_rfl) (by kernel_rfl) (fun _ _ _ h => h) rfl (fun w hSw => by have h1 := HV1.out _ hSw; clear hSw; go_simp) hS ?_
              simp only [List.setIfInBounds_toArray, List.set_cons_zero, List.set_cons_succ]
              refine take_at 8 202 (.int .u32 (y1 : Int)) rfl rfl (by kernel_rfl) (by kernel_rfl) (by kernel_rfl) (fun _ _ _ h => h) rfl (fun w hSw => by clear hSw; go_simp) hS ?_
              simp only [List.setIfInBounds_toArray, List.set_cons_zero, List.set_cons_succ]
              refine take_at 9 203 (.int .u32 (z1 : Int)) rfl rfl (by kernel_rfl) (by kernel_rfl) (by kernel_rfl) (fun _ _ _ h => h) rfl (fun w hSw => by clear hSw; go_simp) hS ?_
              simp only [List.setIfInBounds_toArray, List.set_cons_zero, List.set_cons_succ]
              refine take_at 10 204 (.slice (some ⟨gh, 0, none⟩) 8 ch) rfl rfl (by kernel_rfl) (by kernel_rfl) (by kernel_rfl) (fun _ _ _ h => h) rfl (fun w hSw => by clear hSw; go_simp) hS ?_
              simp only [List.setIfInBounds_toArray, List.set_cons_zero, List.set_cons_succ]
              refine take_at 11 205 (.pointer (some ⟨gh, 2, none⟩)) rfl rfl (by kernel_rfl) (by kernel_rfl) (by kernel_rfl) (fun _ _ _ h => h) rfl (fun w hSw => by clear hSw; go_simp) hS ?_
              simp only [List.setIfInBounds_toArray, List.set_cons_zero, List.set_cons_succ]
              refine take_at 12 206 (.int .u32 (v2 : Int)) rfl rfl (by kernel_rfl) (by kernel_rfl) (by kernel_rfl) (fun _ _ _ h => h) rfl (fun w hSw => by have h1 := HV2.out _ hSw; clear hSw; go_simp) hS ?_
              simp only [List.setIfInBounds_toArray, List.set_cons_zero, List.set_cons_succ]
              refine take_at 13 207 (.int .u32 (y2 : Int)) rfl rfl (by kernel_rfl) (by kernel_rfl) (by kernel_rfl) (fun _ _ _ h => h) rfl (fun w hSw => by clear hSw; go_simp) hS ?_
              simp only [List.setIfInBounds_toArray, List.set_cons_zero, List.set_cons_succ]
              refine take_at 14 208 (.int .u32 (z2 : Int)) rfl rfl (by kernel_rfl) (by kernel_rfl) (by kernel_rfl) (fun _ _ _ h => h) rfl (fun w hSw => by clear hSw; go_simp) hS ?_
              simp only [List.setIfInBounds_toArray, List.set_cons_zero, List.set_cons_succ]
              refine take_at 15 209 (.slice (some ⟨gh, 0, none⟩) 8 ch) rfl rfl (by kernel_rfl) (by kernel_rfl) (by kernel_rfl) (fun _ _ _ h => h) rfl (fun w hSw => by clear hSw; go_simp) hS ?_
              simp only [List.setIfInBounds_toArray, List.set_cons_zero, List.set_cons_succ]
              refine take_at 16 210 (.pointer (some ⟨gh, 3, none⟩)) rfl rfl (by kernel_rfl) (by kernel_rfl) (by kernel_rfl) (fun _ _ _ h => h) rfl (fun w hSw => by clear hSw; go_simp) hS ?_
              simp only [List.setIfInBounds_toArray, List.set_cons_zero, List.set_cons_succ]
              refine take_at 17 211 (.int .u32 (v3 : Int)) rfl rfl (by kernel_rfl) (by kernel_rfl) (by kernel_rfl) (fun _ _ _ h => h) rfl (fun w hSw => by have h1 := HV3.out _ hSw; clear hSw; go_simp) hS ?_
              simp only [List.setIfInBounds_toArray, List.set_cons_zero, List.set_cons_succ]
              refine take_at 18 212 (.int .u32 (y3 : Int)) rfl rfl (by kernel_rfl) (by kernel_rfl) (by kernel_rfl) (fun _ _ _ h => h) rfl (fun w hSw => by clear hSw; go_simp) hS ?_
              simp only [List.setIfInBounds_toArray, List.set_cons_zero, List.set_cons_succ]
              refine take_at 19 213 (.int .u32 (z3 : Int)) rfl rfl (by kernel_rfl) (by kernel_rfl) (by kernel_rfl) (fun _ _ _ h => h) rfl (fun w hSw => by clear hSw; go_simp) hS ?_
              simp only [List.setIfInBounds_toArray, List.set_cons_zero, List.set_cons_succ]
              refine take_at 20 214 (.slice (some ⟨gh, 0, none⟩) 8 ch) rfl rfl (by kernel_rfl) (by kernel_rfl) (by kernel_rfl) (fun _ _ _ h => h) rfl (fun w hSw => by clear hSw; go_simp) hS ?_
              simp only [List.setIfInBounds_toArray, List.set_cons_zero, List.set_cons_succ]
              refine take_at 21 215 (.pointer (some ⟨gh, 4, none⟩)) rfl rfl (by kernel_rfl) (by kernel_rfl) (by kernel_rfl) (fun _ _ _ h => h) rfl (fun w hSw => by clear hSw; go_simp) hS ?_
              simp only [List.setIfInBounds_toArray, List.set_cons_zero, List.set_cons_succ]
              refine take_at 22 216 (.int .u32 (v4 : Int)) rfl rfl (by kernel_rfl) (by kernel_rfl) (by kernel_rfl) (fun _ _ _ h => h) rfl (fun w hSw => by have h1 := HV4.out _ hSw; clear hSw; go_simp) hS ?_
              simp only [List.setIfInBounds_toArray, List.set_cons_zero, List.set_cons_succ]
              refine take_at 23 217 (.int .u32 (y4 : Int)) rfl rfl (by kernel_rfl) (by kernel_rfl) (by kernel_rfl) (fun _ _ _ h => h) rfl (fun w hSw => by clear hSw; go_simp) hS ?_
              simp only [List.setIfInBounds_toArray, List.set_cons_zero, List.set_cons_succ]
              refine take_at 24 218 (.int .u32 (z4 : Int)) rfl rfl (by kernel_rfl) (by kernel_rfl) (by kernel_rfl) (fun _ _ _ h => h) rfl (fun w hSw => by clear hSw; go_simp) hS ?_
              simp only [List.setIfInBounds_toArray, List.set_cons_zero, List.set_cons_succ]
              refine take_at 25 219 (.slice (some ⟨gh, 0, none⟩) 8 ch) rfl rfl (by kernel_rfl) (by kernel_rfl) (by kernel_rfl) (fun _ _ _ h => h) rfl (fun w hSw => by clear hSw; go_simp) hS ?_
              simp only [List.setIfInBounds_toArray, List.set_cons_zero, List.set_cons_succ]
              refine take_at 26 220 (.pointer (some ⟨gh, 5, none⟩)) rfl rfl (by kernel_rfl) (by kernel_rfl) (by kernel_rfl) (fun _ _ _ h => h) rfl (fun w hSw => by clear hSw; go_simp) hS ?_
              simp only [List.setIfInBounds_toArray, List.set_cons_zero, List.set_cons_succ]
              refine take_at 27 221 (.int .u32 (v5 : Int)) rfl rfl (by kernel_rfl) (by kernel_rfl) (by kernel_rfl) (fun _ _ _ h => h) rfl (fun w hSw => by have h1 := HV5.out _ hSw; clear hSw; go_simp) hS ?_
              simp only [List.setIfInBounds_toArray, List.set_cons_zero, List.set_cons_succ]
              refine take_at 28 222 (.int .u32 (y5 : Int)) rfl rfl (by kernel_rfl) (by kernel_rfl) (by kernel_rfl) (fun _ _ _ h => h) rfl (fun w hSw => by clear hSw; go_simp) hS ?_
              simp only [List.setIfInBounds_toArray, List.set_cons_zero, List.set_cons_succ]
              refine take_at 29 223 (.int .u32 (z5 : Int)) rfl rfl (by kernel_rfl) (by kernel_rfl) (by kernel_rfl) (fun _ _ _ h => h) rfl (fun w hSw => by clear hSw; go_simp) hS ?_
              simp only [List.setIfInBounds_toArray, List.set_cons_zero, List.set_cons_succ]
              refine take_at 30 224 (.slice (some ⟨gh, 0, none⟩) 8 ch) rfl rfl (by kernel_rfl) (by kernel_rfl) (by kernel_rfl) (fun _ _ _ h => h) rfl (fun w hSw => by clear hSw; go_simp) hS ?_
              simp only [List.setIfInBounds_toArray, List.set_cons_zero, List.set_cons_succ]
              refine take_at 31 225 (.pointer (some ⟨gh, 6, none⟩)) rfl rfl (by kernel_rfl) (by kernel_rfl) (by kernel_rfl) (fun _ _ _ h => h) rfl (fun w hSw => by clear hSw; go_simp) hS ?_
              simp only [List.setIfInBounds_toArray, List.set_cons_zero, List.set_cons_succ]
              refine take_at 32 226 (.int .u32 (v6 : Int)) rfl rfl (by kernel_rfl) (by kernel_rfl) (by kernel_rfl) (fun _ _ _ h => h) rfl (fun w hSw => by have h1 := HV6.out _ hSw; clear hSw; go_simp) hS ?_
              simp only [List.setIfInBounds_toArray, List.set_cons_zero, List.set_cons_succ]
              refine take_at 33 227 (.int .u32 (y6 : Int)) rfl rfl (by kernel_rfl) (by kernel_rfl) (by kernel_rfl) (fun _ _ _ h => h) rfl (fun w hSw => by clear hSw; go_simp) hS ?_
              simp only [List.setIfInBounds_toArray, List.set_cons_zero, List.set_cons_succ]
              refine take_at 34 228 (.int .u32 (z6 : Int)) rfl rfl (by kernel_rfl) (by kernel_rfl) (by kernel_rfl) (fun _ _ _ h => h) rfl (fun w hSw => by clear hSw; go_simp) hS ?_
              simp only [List.setIfInBounds_toArray, List.set_cons_zero, List.set_cons_succ]
              refine take_at 35 229 (.slice (some ⟨gh, 0, none⟩) 8 ch) rfl rfl (by kernel_rfl) (by kernel_rfl) (by kernel_rfl) (fun _ _ _ h => h) rfl (fun w hSw => by clear hSw; go_simp) hS ?_
              simp only [List.setIfInBounds_toArray, List.set_cons_zero, List.set_cons_succ]
              refine take_at 36 230 (.pointer (some ⟨gh, 7, none⟩)) rfl rfl (by kernel_rfl) (by kernel_rfl) (by kernel_rfl) (fun _ _ _ h => h) rfl (fun w hSw => by clear hSw; go_simp) hS ?_
              simp only [List.setIfInBounds_toArray, List.set_cons_zero, List.set_cons_succ]
              refine take_at 37 231 (.int .u32 (v7 : Int)) rfl rfl (by kernel_rfl) (by kernel_rfl) (by kernel_rfl) (fun _ _ _ h => h) rfl (fun w hSw => by have h1 := HV7.out _ hSw; clear hSw; go_simp) hS ?_
              simp only [List.setIfInBounds_toArray, List.set_cons_zero, List.set_cons_succ]
              refine take_at 38 232 (.int .u32 (y7 : Int)) rfl rfl (by kernel_rfl) (by kernel_rfl) (by kernel_rfl) (fun _ _ _ h => h) rfl (fun w hSw => by clear hSw; go_simp) hS ?_
              simp only [List.setIfInBounds_toArray, List.set_cons_zero, List.set_cons_succ]
              refine take_at 39 233 (.int .u32 (z7 : Int)) rfl rfl (by kernel_rfl) (by kernel_rfl) (by kernel_rfl) (fun _ _ _ h => h) rfl (fun w hSw => by clear hSw; go_simp) hS ?_
              simp only [List.setIfInBounds_toArray, List.set_cons_zero, List.set_cons_succ]
              refine wpAnyH_ready (rs := [40]) (by kernel_rfl) (by simp) ?_
              refine AllReadyH.cons (o := { dst := some 234, op := .buildSlice 140 8 #[(0, .tmp 198), (1, .tmp 203), (2, .tmp 208), (3, .tmp 213), (4, .tmp 218), (5, .tmp 223), (6, .tmp 228), (7, .tmp 233)], type := 140, pos := "ref.go:102", after := #[{ on := 4, ground := .data }, { on := 9, ground := .data }, { on := 14, ground := .data }, { on := 19, ground := .data }, { on := 24, ground := .data }, { on := 29, ground := .data }, { on := 34, ground := .data }, { on := 39, ground := .data }], guard := none }) rfl (fun K hK => ?_) AllReadyH.nil
              go_simp
              refine hK.out _ _ (hS.alloc hS.size _) (fun hS' => ?_)
              replace hS := hS'
              clear hK K hS'
              try simp only [Act.put, List.setIfInBounds_toArray, List.set_cons_zero, List.set_cons_succ]
              refine take_at 41 6 (.slice (some ⟨X.heap.size, 0, none⟩) 8 8) rfl rfl (by kernel_rfl) (by kernel_rfl) (by kernel_rfl) (fun _ _ _ h => h) rfl (fun w hSw => by clear hSw; go_simp) hS ?_
              simp only [List.setIfInBounds_toArray, List.set_cons_zero, List.set_cons_succ]
              refine wpAnyH_done (by kernel_rfl) ?_ _
              go_wp2
              go_ret
              refine ⟨_, rfl, ?_, HBX.out.trans (hS.mono HBX.out.size)⟩
              rw [HZ'.out]
              exact rd_new X.drew [z0, z1, z2, z3, z4, z5, z6, z7]
end Go.Proofs.YtlkkninnfiaedaaDoor.Sh
