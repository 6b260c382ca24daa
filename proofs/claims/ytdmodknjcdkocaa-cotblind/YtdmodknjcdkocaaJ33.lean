/- Pairs taken over; Chosen: the program's and the document's. -/
import Derived.Test.YtdmodknjcdkocaaJ24
import Derived.Test.YtdmodknjcdkocaaJ29
namespace Go.Proofs.Ytdmodknjcdkocaa.Ro
open Go.RowKit Pg
set_option maxRecDepth 100000
attribute [local go_sem] not_any T.mf_any

set_option maxHeartbeats 4000000 in
theorem pairs_any (m c : Nat) (a : Option Addr) (f : Nat → List Nat) (w : World) (hp : Pd w m a f) (hm : m ≤ 4096) :
    Calls Try.prog 9 #[.slice a m c] w fun e w' => ∃ g d, e = .returned (.slice g m d) ∧ Pd w' m g f ∧ Below w.heap.size w w' := by
  obtain ⟨i0, hi0, hz0, hz1, hz2⟩ := info_of info_pair
  have HP := hide1 hp
  have HG := hide1 hp.good
  clear hp
  go_enter Try.func9, Try.ntmps9
  go_wp2
  go_loopw [3, 4] (fun v3 v4 wr => ∃ k : Nat, k ≤ m ∧ v4 = .int .i64 k ∧ (∃ a c, v3 = .slice a k c) ∧ wr.ownsRow w.heap.size 58 64 v3 k (u8s (flt f (2 * k))) ∧ Below w.heap.size w wr) (fun _ v4 _ => m - (intOf v4).toNat)
  case atStart => exact ⟨0, Nat.zero_le _, rfl, ⟨none, 0, rfl⟩, World.ownsRow_nil _ _ _ _, Below.refl _ _⟩
  case round =>
    obtain ⟨k, hk, rfl, ⟨a3, c3, rfl⟩, hro, hbe⟩ := hrel
    by_cases hlt : k < m
    · have bk : (k : Int) < (m : Int) := by omega
      have bk2 : (k : Int) < 4096 := by omega
      obtain ⟨ga, oa, rfl, hga, ra⟩ := HP.out.at0 hlt
      have RA := hide1 (fun W (h : Below wr.heap.size wr W) => ra W (hbe.trans (h.mono hbe.size)) k hlt)
      have hsl := (HG.out (2 * k)).1
      have htl := (HG.out (2 * k + 1)).1
      have hi := hi23' hsl
      have hi2 := hi23' htl
      have HSF : Shy (flt f (2 * k) ++ (f (2 * k) ++ f (2 * k + 1)) = flt f (2 * (k + 1))) := ⟨by rw [flt_two]⟩
      generalize f (2 * k) = s at *
      generalize f (2 * k + 1) = t at *
      have HSL := hide1 (And.intro hsl htl)
      have HLs : Hid ((u8s (s ++ t)).length = 1 * 64) := by show (u8s (s ++ t)).length = 1 * 64; rw [u8s_length, List.length_append, hsl, htl]
      obtain ⟨ja, hja⟩ : ∃ j, j = oa + k * 64 := ⟨_, rfl⟩
      rw [← hja] at RA
      have eja : oa + k * 64 = ja := hja.symm
      have HRO := hide1 hro
      have HE := hide1 hbe
      clear hro hbe ra hsl htl hja hga
      go_upto_region 5 with (fail)
      refine region_f (F := [13]) (S := fun W' => Below wr.heap.size wr W') (by kernel_rfl) (Below.refl _ _).drew (fun hS => ?_)
      refine take_p 0 11 (.slice a3 k c3) rfl rfl (by kernel_rfl) (by kernel_rfl) (by kernel_rfl) (fun _ _ _ h => h) rfl (fun w => by go_simp) ?_
      try simp only [List.setIfInBounds_toArray, List.set_cons_zero, List.set_cons_succ]
      refine take_p 1 12 (.slice (some ⟨ga, oa, none⟩) m c) rfl rfl (by kernel_rfl) (by kernel_rfl) (by kernel_rfl) (fun _ _ _ h => h) rfl (fun w => by go_simp) ?_
      try simp only [List.setIfInBounds_toArray, List.set_cons_zero, List.set_cons_succ]
      refine take_p 2 13 (.int .i64 (k : Int)) rfl rfl (by kernel_rfl) (by kernel_rfl) (by kernel_rfl) (fun _ _ _ h => h) rfl (fun w => by go_simp) ?_
      try simp only [List.setIfInBounds_toArray, List.set_cons_zero, List.set_cons_succ]
      refine take_p 3 14 (.pointer (some ⟨ga, ja, none⟩)) rfl rfl (by kernel_rfl) (by kernel_rfl) (by kernel_rfl) (fun _ _ _ h => h) rfl (fun w => by go_simp) ?_
      try simp only [List.setIfInBounds_toArray, List.set_cons_zero, List.set_cons_succ]
      refine take_p 4 15 (.pointer (some ⟨ga, ja, none⟩)) rfl rfl (by kernel_rfl) (by kernel_rfl) (by kernel_rfl) (fun _ _ _ h => h) rfl (fun w => by go_simp) ?_
      try simp only [List.setIfInBounds_toArray, List.set_cons_zero, List.set_cons_succ]
      refine take_f 5 16 (.agg (u8s s).toArray) [11, 12, 13, 14] rfl rfl (by kernel_rfl) (by kernel_rfl) (by kernel_rfl) (by kernel_rfl) (by kernel_rfl) (by kernel_rfl) (fun _ _ _ h => h) rfl (fun w hSw => by exact exec_load_mid 46 _ rfl _ _ rfl (u8s s) _ ((RA.out _ hSw).1) Try.underlying46 rfl hi) hS ?_
      try simp only [List.setIfInBounds_toArray, List.set_cons_zero, List.set_cons_succ]
      refine take_p 6 17 (.slice (some ⟨ga, oa, none⟩) m c) rfl rfl (by kernel_rfl) (by kernel_rfl) (by kernel_rfl) (fun _ _ _ h => h) rfl (fun w => by go_simp) ?_
      try simp only [List.setIfInBounds_toArray, List.set_cons_zero, List.set_cons_succ]
      refine take_p 7 18 (.int .i64 (k : Int)) rfl rfl (by kernel_rfl) (by kernel_rfl) (by kernel_rfl) (fun _ _ _ h => h) rfl (fun w => by go_simp) ?_
      try simp only [List.setIfInBounds_toArray, List.set_cons_zero, List.set_cons_succ]
      refine take_p 8 19 (.pointer (some ⟨ga, ja, none⟩)) rfl rfl (by kernel_rfl) (by kernel_rfl) (by kernel_rfl) (fun _ _ _ h => h) rfl (fun w => by go_simp) ?_
      try simp only [List.setIfInBounds_toArray, List.set_cons_zero, List.set_cons_succ]
      refine take_p 9 20 (.pointer (some ⟨ga, ja + 32, none⟩)) rfl rfl (by kernel_rfl) (by kernel_rfl) (by kernel_rfl) (fun _ _ _ h => h) rfl (fun w => by go_simp) ?_
      try simp only [List.setIfInBounds_toArray, List.set_cons_zero, List.set_cons_succ]
      refine take_f 10 21 (.agg (u8s t).toArray) [11, 12, 13, 14] rfl rfl (by kernel_rfl) (by kernel_rfl) (by kernel_rfl) (by kernel_rfl) (by kernel_rfl) (by kernel_rfl) (fun _ _ _ h => h) rfl (fun w hSw => by exact exec_load_mid 46 _ rfl _ _ rfl (u8s t) _ ((RA.out _ hSw).2) Try.underlying46 rfl hi2) hS ?_
      try simp only [List.setIfInBounds_toArray, List.set_cons_zero, List.set_cons_succ]
      refine take_p 11 22 (.agg (u8s (s ++ t)).toArray) rfl rfl (by kernel_rfl) (by kernel_rfl) (by kernel_rfl) (fun _ _ _ h => h) rfl (fun w => by exact exec_pair _ _ rfl rfl rfl HSL.out.1 HSL.out.2) ?_
      try simp only [List.setIfInBounds_toArray, List.set_cons_zero, List.set_cons_succ]
      refine ready_f 12 (o := { dst := some 23, op := Op.buildSlice 28 1 #[(0, Operand.tmp 22)], type := 28, pos := "law.go:19", after := #[{ on := 11, ground := Ground.data }], guard := none }) (by kernel_rfl) rfl (fun K hK => ?_)
      rw [if_pos (by rfl)]
      unfold Oper.wp
      rw [exec_build_pair (s := s) (t := t) _ rfl rfl HSL.out.1 HSL.out.2]
      generalize hU : World.alloc _ _ = U
      have hU0 : U.heap[wr.heap.size]? = some (row8 58 (s ++ t)) := by rw [← hU]; exact heap_alloc_new wr.drew _
      have hS3 : Below wr.heap.size wr U := by rw [← hU]; exact hS.alloc hS.size _
      clear hU
      refine hK.out _ _ (fun _ _ => hS3) ?_
      clear hK K
      try simp only [Act.put, List.setIfInBounds_toArray, List.set_cons_zero, List.set_cons_succ]
      have RO3 := hide1 (own_below HRO.out hS3)
      have hz8 := hS3.size
      have hz9 := HE.out.size
      refine ready_f 13 (o := { dst := some 24, op := Op.call { callee := Callee.builtin Builtin.append, args := #[Operand.tmp 11, Operand.tmp 23], argTypes := #[28, 28] }, type := 28, pos := "law.go:19", after := #[{ on := 0, ground := Ground.data }, { on := 12, ground := Ground.data }], guard := none }) (by kernel_rfl) rfl (fun K hK => ?_)
      rw [if_pos (by rfl)]
      refine wp_append_lies _ _ _ 28 rfl w.heap.size 58 i0 (arr8 (zeros 64)) 64 64 Try.underlying28 hi0 hz0 hz1 hz2 (by kernel_rfl) (by decide) (.slice a3 k c3) k (u8s (flt f (2 * k))) rfl RO3.out ⟨wr.heap.size, 0, none⟩ 1 1 (u8s (s ++ t)) rfl HLs.out (World.news_of_block hU0) (u8s_one _) (by omega) (by unfold maxLen; omega) (by omega) (by omega) _ rfl ?_
      intro g8 cap8 w8 ro8 gr8 wh8 lt8
      rw [← u8s_append, HSF.out] at ro8
      have hb8 : Below w.heap.size U w8 := (Below.refl _ _).grown gr8 (by omega) (fun k hk => (RO3.out.lt k hk).1)
      have hS6 : Below w.heap.size wr w8 := (hS3.mono (by omega)).trans hb8
      refine hK.out _ _ (fun h => absurd (by decide) h) ?_
      clear hK K
      try simp only [Act.put, List.setIfInBounds_toArray, List.set_cons_zero, List.set_cons_succ]
      refine take_p 14 3 (.slice (some ⟨g8, 0, none⟩) (k + 1) cap8) rfl rfl (by kernel_rfl) (by kernel_rfl) (by kernel_rfl) (fun _ _ _ h => h) rfl (fun w => by go_simp) ?_
      try simp only [List.setIfInBounds_toArray, List.set_cons_zero, List.set_cons_succ]
      refine done_f (by kernel_rfl) ?_ _
      have RO8 := hide1 ro8
      have HB8 := hide1 (HE.out.trans hS6)
      clear ro8 hS6
      go_wp2
      go_roundw
      case rel => exact ⟨k + 1, by omega, by go_num, ⟨_, _, rfl⟩, RO8.out, HB8.out⟩
      case measure => simp [intOf]; omega
    · obtain rfl : k = m := by omega
      have HRO := hide1 hro
      have HE := hide1 hbe
      clear hro hbe
      go_wp2
      go_ret
      exact ⟨_, _, rfl, pd_own HG.out HRO.out, HE.out⟩

/- which seed a choice chooses -/
def pick (b : Bool) (s t : List Nat) : List Nat := if b then t else s
/- are the seeds those that the choices choose? -/
def okAt (f s : Nat → List Nat) (ch : List Bool) (j : Nat) : Prop := s j = pick (ch.getD j false) (f (2 * j)) (f (2 * j + 1))
instance (f s : Nat → List Nat) (ch : List Bool) (j : Nat) : Decidable (okAt f s ch j) := inferInstanceAs (Decidable (_ = _))
def chs (f s : Nat → List Nat) (ch : List Bool) (m n N : Nat) : Bool := decide (m = n ∧ m = N ∧ ∀ j, j < m → okAt f s ch j)
theorem chs_len {f s : Nat → List Nat} {ch : List Bool} {m n N : Nat} (h : ¬ (m = n ∧ m = N)) : chs f s ch m n N = false := decide_eq_false (fun hh => h ⟨hh.1, hh.2.1⟩)
theorem chs_no {f s : Nat → List Nat} {ch : List Bool} {m j : Nat} (hj : j < m) (h : ¬ okAt f s ch j) : chs f s ch m m m = false := decide_eq_false (fun hh => h (hh.2.2 j hj))
theorem chs_yes {f s : Nat → List Nat} {ch : List Bool} {m : Nat} (h : ∀ j, j < m → okAt f s ch j) : chs f s ch m m m = true := decide_eq_true ⟨rfl, rfl, h⟩

end Go.Proofs.Ytdmodknjcdkocaa.Ro
