/- Pairs taken over; Chosen: the program's and the document's. -/
import Derived.Test.YtlkkninnfiaedaaDoorJ45
import Derived.Test.YtlkkninnfiaedaaDoorJ35
namespace Go.Proofs.YtlkkninnfiaedaaDoor.Ro
open Go.RowKit Pg
set_option maxRecDepth 100000
attribute [local go_sem] not_any T.mf_any

set_option maxHeartbeats 4000000 in
theorem pairs_any (m c : Nat) (a : Option Addr) (f : Nat → List Nat) (w : World) (hp : Pd w m a f) (hm : m ≤ 4096) :
    Calls Tryd.prog 24 #[.slice a m c] w fun e w' => ∃ g d, e = .returned (.slice g m d) ∧ Pd w' m g f ∧ Below w.heap.size w w' := by
  obtain ⟨i0, hi0, hz0, hz1, hz2⟩ := info_of info_pair
  have HP := hide1 hp
  have HG := hide1 hp.good
  clear hp
  go_enter Tryd.func24, Tryd.ntmps24
  go_wp2
  go_loopw [3, 4] (fun v3 v4 wr => ∃ k : Nat, k ≤ m ∧ v4 = .int .i64 k ∧ (∃ a c, v3 = .slice a k c) ∧ wr.ownsRow w.heap.size 74 64 v3 k (u8s (flt f (2 * k))) ∧ Below w.heap.size w wr) (fun _ v4 _ => m - (intOf v4).toNat)
  case atStart => exact ⟨0, Nat.zero_le _, rfl, ⟨none, 0, rfl⟩, World.ownsRow_nil _ _ _ _, Below.refl _ _⟩
  case round =>
    obtain ⟨k, hk, rfl, ⟨a3, c3, rfl⟩, hro, hbe⟩ := hrel
    by_cases hlt : k < m
    · have bk : (k : Int) < (m : Int) := by omega
      have bk2 : (k : Int) < 4096 := by omega
      obtain ⟨ga, oa, rfl, hga, ra⟩ := HP.out.at0 hlt
      have RA := hide1 (fun W (h : Below wr.heap.size wr W) => ra W (hbe.trans (h.mono hbe.size)) k hlt)
      have hsl := (HG.out (2 * k)).1
      have htl := (HG.out (2 * k + 1)).1
      have hi := hi23' hsl
      have hi2 := hi23' htl
      have HSF : Shy (flt f (2 * k) ++ (f (2 * k) ++ f (2 * k + 1)) = flt f (2 * (k + 1))) := ⟨by rw [flt_two]⟩
      generalize f (2 * k) = s at *
      generalize f (2 * k + 1) = t at *
      have HSL := hide1 (And.intro hsl htl)
      have HLs : Hid ((u8s (s ++ t)).length = 1 * 64) := by show (u8s (s ++ t)).length = 1 * 64; rw [u8s_length, List.length_append, hsl, htl]
      obtain ⟨ja, hja⟩ : ∃ j, j = oa + k * 64 := ⟨_, rfl⟩
      rw [← hja] at RA
      have eja : oa + k * 64 = ja := hja.symm
      have HRO := hide1 hro
      have HE := hide1 hbe
      clear hro hbe ra hsl htl hja hga
      go_upto_region 5 with (fail)
      refine region_f (F := [13]) (S := fun W' => Below wr.heap.size wr W') (by kernel_rfl) (Below.refl _ _).drew (fun hS => ?_)
      refine take_p 0 11 (.slice a3 k c3) rfl rfl (by kernel_rfl) (by kernel_rfl) (by kernel_rfl) (fun _ _ _ h => h) rfl (fun w => by go_simp) ?_
      try simp only [List.setIfInBounds_toArray, List.set_cons_zero, List.set_cons_succ]
      refine take_p 1 12 (.slice (some ⟨ga, oa, none⟩) m c) rfl rfl (by kernel_rfl) (by kernel_rfl) (by kernel_rfl) (fun _ _ _ h => h) rfl (fun w => by go_simp) ?_
      try simp only [List.setIfInBounds_toArray, List.set_cons_zero, List.set_cons_succ]
      refine take_p 2 13 (.int .i64 (k : Int)) rfl rfl (by kernel_rfl) (by kernel_rfl) (by kernel_rfl) (fun _ _ _ h => h) rfl (fun w => by go_simp) ?_
      try simp only [List.setIfInBounds_toArray, List.set_cons_zero, List.set_cons_succ]
      refine take_p 3 14 (.pointer (some ⟨ga, ja, none⟩)) rfl rfl (by kernel_rfl) (by kernel_rfl) (by kernel_rfl) (fun _ _ _ h => h) rfl (fun w => by go_simp) ?_
      try simp only [List.setIfInBounds_toArray, List.set_cons_zero, List.set_cons_succ]
      refine take_p 4 15 (.pointer (some ⟨ga, ja, none⟩)) rfl rfl (by kernel_rfl) (by kernel_rfl) (by kernel_rfl) (fun _ _ _ h => h) rfl (fun w => by go_simp) ?_
      try simp only [List.setIfInBounds_toArray, List.set_cons_zero, List.set_cons_succ]
      refine take_f 5 16 (.agg (u8s s).toArray) [11, 12, 13, 14] rfl rfl (by kernel_rfl) (by kernel_rfl) (by kernel_rfl) (by kernel_rfl) (by kernel_rfl) (by kernel_rfl) (fun _ _ _ h => h) rfl (fun w hSw => by exact exec_load_mid 28 _ rfl _ _ rfl (u8s s) _ ((RA.out _ hSw).1) Tryd.underlying28 rfl hi) hS ?_
      try simp only [List.setIfInBounds_toArray, List.set_cons_zero, List.set_cons_succ]
      refine take_p 6 17 (.slice (some ⟨ga, oa, none⟩) m c) rfl rfl (by kernel_rfl) (by kernel_rfl) (by kernel_rfl) (fun _ _ _ h => h) rfl (fun w => by go_simp) ?_
      try simp only [List.setIfInBounds_toArray, List.set_cons_zero, List.set_cons_succ]
      refine take_p 7 18 (.int .i64 (k : Int)) rfl rfl (by kernel_rfl) (by kernel_rfl) (by kernel_rfl) (fun _ _ _ h => h) rfl (fun w => by go_simp) ?_
      try simp only [List.setIfInBounds_toArray, List.set_cons_zero, List.set_cons_succ]
      refine take_p 8 19 (.pointer (some ⟨ga, ja, none⟩)) rfl rfl (by kernel_rfl) (by kernel_rfl) (by kernel_rfl) (fun _ _ _ h => h) rfl (fun w => by go_simp) ?_
      try simp only [List.setIfInBounds_toArray, List.set_cons_zero, List.set_cons_succ]
      refine take_p 9 20 (.pointer (some ⟨ga, ja + 32, none⟩)) rfl rfl (by kernel_rfl) (by kernel_rfl) (by kernel_rfl) (fun _ _ _ h => h) rfl (fun w => by go_simp) ?_
      try simp only [List.setIfInBounds_toArray, List.set_cons_zero, List.set_cons_succ]
      refine take_f 10 21 (.agg (u8s t).toArray) [11, 12, 13, 14] rfl rfl (by kernel_rfl) (by kernel_rfl) (by kernel_rfl) (by kernel_rfl) (by kernel_rfl) (by kernel_rfl) (fun _ _ _ h => h) rfl (fun w hSw => by exact exec_load_mid 28 _ rfl _ _ rfl (u8s t) _ ((RA.out _ hSw).2) Tryd.underlying28 rfl hi2) hS ?_
      try simp only [List.setIfInBounds_toArray, List.set_cons_zero, List.set_cons_succ]
      refine take_p 11 22 (.agg (u8s (s ++ t)).toArray) rfl rfl (by kernel_rfl) (by kernel_rfl) (by kernel_rfl) (fun _ _ _ h => h) rfl (fun w => by exact exec_pair _ _ rfl rfl rfl HSL.out.1 HSL.out.2) ?_
      try simp only [List.setIfInBounds_toArray, List.set_cons_zero, List.set_cons_succ]
      refine ready_f 12 (o := { dst := some 23, op := Op.buildSlice 31 1 #[(0, Operand.tmp 22)], type := 31, pos := "law.go:18", after := #[{ on := 11, ground := Ground.data }], guard := none }) (by kernel_rfl) rfl (fun K hK => ?_)
      rw [if_pos (by rfl)]
      unfold Oper.wp
      rw [exec_build_pair (s := s) (t := t) _ rfl rfl HSL.out.1 HSL.out.2]
      generalize hU : World.alloc _ _ = U
      have hU0 : U.heap[wr.heap.size]? = some (row8 74 (s ++ t)) := by rw [← hU]; exact heap_alloc_new wr.drew _
      have hS3 : Below wr.heap.size wr U := by rw [← hU]; exact hS.alloc hS.size _
      clear hU
      refine hK.out _ _ (fun _ _ => hS3) ?_
      clear hK K
      try simp only [Act.put, List.setIfInBounds_toArray, List.set_cons_zero, List.set_cons_succ]
      have RO3 := hide1 (own_below HRO.out hS3)
      have hz8 := hS3.size
      have hz9 := HE.out.size
      refine ready_f 13 (o := { dst := some 24, op := Op.call { callee := Callee.builtin Builtin.append, args := #[Operand.tmp 11, Operand.tmp 23], argTypes := #[31, 31] }, type := 31, pos := "law.go:18", after := #[{ on := 0, ground := Ground.data }, { on := 12, ground := Ground.data }], guard := none }) (by kernel_rfl) rfl (fun K hK => ?_)
      rw [if_pos (by rfl)]
      refine wp_append_lies _ _ _ 31 rfl w.heap.size 74 i0 (arr8 (zeros 64)) 64 64 Tryd.underlying31 hi0 hz0 hz1 hz2 (by kernel_rfl) (by decide) (.slice a3 k c3) k (u8s (flt f (2 * k))) rfl RO3.out ⟨wr.heap.size, 0, none⟩ 1 1 (u8s (s ++ t)) rfl HLs.out (World.news_of_block hU0) (u8s_one _) (by omega) (by unfold maxLen; omega) (by omega) (by omega) _ rfl ?_
      intro g8 cap8 w8 ro8 gr8 wh8 lt8
      rw [← u8s_append, HSF.out] at ro8
      have hb8 : Below w.heap.size U w8 := (Below.refl _ _).grown gr8 (by omega) (fun k hk => (RO3.out.lt k hk).1)
      have hS6 : Below w.heap.size wr w8 := (hS3.mono (by omega)).trans hb8
      refine hK.out _ _ (fun h => absurd (by decide) h) ?_
      clear hK K
      try simp only [Act.put, List.setIfInBounds_toArray, List.set_cons_zero, List.set_cons_succ]
      refine take_p 14 3 (.slice (some ⟨g8, 0, none⟩) (k + 1) cap8) rfl rfl (by kernel_rfl) (by kernel_rfl) (by kernel_rfl) (fun _ _ _ h => h) rfl (fun w => by go_simp) ?_
      try simp only [List.setIfInBounds_toArray, List.set_cons_zero, List.set_cons_succ]
      refine done_f (by kernel_rfl) ?_ _
      have RO8 := hide1 ro8
      have HB8 := hide1 (HE.out.trans hS6)
      clear ro8 hS6
      go_wp2
      go_roundw
      case rel => exact ⟨k + 1, by omega, by go_num, ⟨_, _, rfl⟩, RO8.out, HB8.out⟩
      case measure => simp [intOf]; omega
    · obtain rfl : k = m := by omega
      have HRO := hide1 hro
      have HE := hide1 hbe
      clear hro hbe
      go_wp2
      go_ret
      exact ⟨_, _, rfl, pd_own HG.out HRO.out, HE.out⟩

/- which seed a choice chooses -/
def pick (b : Bool) (s t : List Nat) : List Nat := if b then t else s
set_option maxHeartbeats 1000000 in
theorem pchosen_any (s t : List Nat) (b : Bool) (w : World) (hs : s.length = 32) (ht : t.length = 32) :
    Calls Tryd.prog 41 #[.agg (u8s (s ++ t)).toArray, .bool b] w fun e w' => e = .returned (.agg (u8s (pick b s t)).toArray) ∧ Below w.heap.size w w' := by
  have HP := hide1 (hiP hs ht)
  have hi := hi23 hs
  have hi' := hi23' hs
  have ht1 := hi23 ht
  have ht' := hi23' ht
  have HZ : Shy ((u8s (zeros 32)).toArray.size = (u8s s).toArray.size) := ⟨by simp [u8s, zeros, hs]⟩
  have HZ2 : Shy ((u8s (zeros 32)).toArray.size = (u8s t).toArray.size) := ⟨by simp [u8s, zeros, ht]⟩
  have HS : Shy (s.length = 32) := ⟨hs⟩
  clear hs ht
  cases b with
  | true =>
    go_enter Tryd.func41, Tryd.ntmps41
    go_upto_region 1 with (fail)
    generalize hX : World.alloc (World.alloc w _) _ = X
    have x0 : X.heap[w.heap.size]? = some (row8 74 (s ++ t)) := by rw [← hX]; exact heap_alloc2_old _ _ _
    have x1 : X.heap[w.heap.size + 1]? = some (row8 28 (zeros 32)) := by rw [← hX]; exact heap_alloc2_new _ _ _
    have xb : Below w.heap.size w X := by rw [← hX]; exact ((Below.refl _ _).alloc (Nat.le_refl _) _).alloc (by simp) _
    have hr : X.rangeAt w.heap.size 32 (u8s t) := fun j v hj => by
      rw [cell_of_row X _ _ _ _ _ x0]
      simp only [List.getElem?_toArray]
      rw [u8s_append, List.getElem?_append_right (by rw [u8s_length, HS.out]; omega), u8s_length, HS.out, Nat.add_sub_cancel_left]
      exact hj
    have HR := hide1 hr
    have X1 := hide1 x1
    have XB := hide1 xb
    clear hX x0 x1 xb hr
    go_wp2_with (first
      | (refine wpList_load_mid rfl 28 (.tmp 6) rfl w.heap.size 32 rfl (u8s t) _ HR.out Tryd.underlying28 rfl ht' ?_)
      | (refine wpList_store_own rfl 28 (.tmp 4) (.tmp 7) rfl (w.heap.size + 1) rfl (u8s t).toArray rfl 28 _ X1.out ht1 HZ2.out (all_one (u8s_one _)) ?_)
      | fail)
    refine ret_row Tryd.results41 (w.heap.size + 1) 28 (u8s t).toArray rfl (setRow_heap _ _ _ _ _ _ X1.out) Tryd.underlying28 ht1 rfl ⟨rfl, ?_⟩
    exact Below.setRow' XB.out (by omega) _
  | false =>
    go_enter Tryd.func41, Tryd.ntmps41
    go_upto_region 1 with (fail)
    generalize hX : World.alloc (World.alloc w _) _ = X
    have x0 : X.heap[w.heap.size]? = some (row8 74 (s ++ t)) := by rw [← hX]; exact heap_alloc2_old _ _ _
    have x1 : X.heap[w.heap.size + 1]? = some (row8 28 (zeros 32)) := by rw [← hX]; exact heap_alloc2_new _ _ _
    have xb : Below w.heap.size w X := by rw [← hX]; exact ((Below.refl _ _).alloc (Nat.le_refl _) _).alloc (by simp) _
    have hr : X.rangeAt w.heap.size 0 (u8s s) := fun j v hj => by
      rw [cell_of_row X _ _ _ _ _ x0]
      simp only [List.getElem?_toArray]
      rw [u8s_append, Nat.zero_add, List.getElem?_append_left (List.getElem?_eq_some_iff.1 hj).1]
      exact hj
    have HR := hide1 hr
    have X1 := hide1 x1
    have XB := hide1 xb
    clear hX x0 x1 xb hr
    go_wp2_with (first
      | (refine wpList_load_mid rfl 28 (.tmp 8) rfl w.heap.size 0 rfl (u8s s) _ HR.out Tryd.underlying28 rfl hi' ?_)
      | (refine wpList_store_own rfl 28 (.tmp 4) (.tmp 9) rfl (w.heap.size + 1) rfl (u8s s).toArray rfl 28 _ X1.out hi HZ.out (all_one (u8s_one _)) ?_)
      | fail)
    refine ret_row Tryd.results41 (w.heap.size + 1) 28 (u8s s).toArray rfl (setRow_heap _ _ _ _ _ _ X1.out) Tryd.underlying28 hi rfl ⟨rfl, ?_⟩
    exact Below.setRow' XB.out (by omega) _

/- are the seeds those that the choices choose? -/
def okAt (f s : Nat → List Nat) (ch : List Bool) (j : Nat) : Prop := s j = pick (ch.getD j false) (f (2 * j)) (f (2 * j + 1))
instance (f s : Nat → List Nat) (ch : List Bool) (j : Nat) : Decidable (okAt f s ch j) := inferInstanceAs (Decidable (_ = _))
def chs (f s : Nat → List Nat) (ch : List Bool) (m n N : Nat) : Bool := decide (m = n ∧ m = N ∧ ∀ j, j < m → okAt f s ch j)
theorem chs_len {f s : Nat → List Nat} {ch : List Bool} {m n N : Nat} (h : ¬ (m = n ∧ m = N)) : chs f s ch m n N = false := decide_eq_false (fun hh => h ⟨hh.1, hh.2.1⟩)
theorem chs_no {f s : Nat → List Nat} {ch : List Bool} {m j : Nat} (hj : j < m) (h : ¬ okAt f s ch j) : chs f s ch m m m = false := decide_eq_false (fun hh => h (hh.2.2 j hj))
theorem chs_yes {f s : Nat → List Nat} {ch : List Bool} {m : Nat} (h : ∀ j, j < m → okAt f s ch j) : chs f s ch m m m = true := decide_eq_true ⟨rfl, rfl, h⟩

theorem chosen_len (f s : Nat → List Nat) (ch : List Bool) (m n N c d : Nat) (a b av : Option Addr) (w : World) (_hm : m ≤ 4194304) (_hn : n ≤ 4194304) (_hN : N ≤ 4194304) (h : ¬ (m = n ∧ m = N)) :
    Calls Tryd.prog 23 #[.slice a m c, .slice b n d, .agg #[.int .i64 (N : Int), .slice av (T.need N 64) (T.need N 64)]] w fun e w' => e = .returned (.bool (chs f s ch m n N)) ∧ Below w.heap.size w w' := by
  rw [chs_len h]
  have hB : Below w.heap.size w (w.alloc (.cells #[.int .i64 (N : Int), .slice av (T.need N 64) (T.need N 64)] 41)) := (Below.refl _ _).alloc (Nat.le_refl _) _
  have HB := hide1 hB
  have hbx := heap_alloc_new w (.cells #[.int .i64 (N : Int), .slice av (T.need N 64) (T.need N 64)] 41)
  clear hB
  by_cases h1 : m = n
  · have h2 : m ≠ N := fun e => h ⟨h1, e⟩
    have t1 : ((m : Int) != (n : Int)) = false := by rw [bne_eq_false_iff_eq]; omega
    have t2 : ((m : Int) != (N : Int)) = true := by rw [bne_iff_ne]; omega
    have kL := fun w => hide1 (T.len_any (N : Int) (.slice av (T.need N 64) (T.need N 64)) w rfl)
    obtain ⟨q1, q2, q3, q4, q5⟩ := T.box2 hbx
    clear h h1 h2 hbx
    go_enter Tryd.func23, Tryd.ntmps23
    go_upto_region 1 with (fail)
    generalize World.alloc w _ = X at *
    go_wp2_with (first | (go_at_call 17; refine (kL _).out.mono ?_; rintro e w2 ⟨rfl, rfl⟩))
    go_ret
    exact ⟨rfl, HB.out.alloc HB.out.size _⟩
  · have t1 : ((m : Int) != (n : Int)) = true := by rw [bne_iff_ne]; omega
    clear h h1 hbx
    go_enter Tryd.func23, Tryd.ntmps23
    go_wp2
    go_ret
    exact ⟨rfl, HB.out⟩

set_option maxHeartbeats 8000000 in
theorem chosen_same (f s : Nat → List Nat) (ch : List Bool) (m c d : Nat) (a b av : Option Addr) (w : World) (hp : Pd w m a f) (hs : Sd w m b s) (hv : T.Vc 0 w m av ch) (hm : m ≤ 4096) :
    Calls Tryd.prog 23 #[.slice a m c, .slice b m d, .agg #[.int .i64 (m : Int), .slice av (T.need m 64) (T.need m 64)]] w fun e w' => e = .returned (.bool (chs f s ch m m m)) ∧ Below w.heap.size w w' := by
  have HP := hide1 hp
  have HS := hide1 hs
  have HV := hide1 hv
  have HGP := hide1 hp.good
  have HGS := hide1 hs.good
  have t1 : ((m : Int) != (m : Int)) = false := by rw [bne_eq_false_iff_eq]
  have kL := fun w => hide1 (T.len_any (m : Int) (.slice av (T.need m 64) (T.need m 64)) w rfl)
  clear hp hs hv
  go_enter Tryd.func23, Tryd.ntmps23
  go_upto_region 1 with (fail)
  generalize hX : World.alloc w _ = X
  have x0 : X.heap[w.heap.size]? = some (.cells #[.int .i64 (m : Int), .slice av (T.need m 64) (T.need m 64)] 41 (0, 0)) := by rw [← hX]; exact heap_alloc_new _ _
  have xb : Below w.heap.size w X := by rw [← hX]; exact (Below.refl _ _).alloc (Nat.le_refl _) _
  have X0 := hide1 x0
  have XB := hide1 xb
  clear hX xb
  obtain ⟨q1, q2, q3, q4, q5⟩ := T.box2 x0
  clear x0
  go_wp2_with (first | (go_at_call 17; refine (kL _).out.mono ?_; rintro e w2 ⟨rfl, rfl⟩))
  generalize hY : World.alloc X _ = Y
  have yb : Below X.heap.size X Y := by rw [← hY]; exact (Below.refl _ _).alloc (Nat.le_refl _) _
  have YB := hide1 yb
  clear hY yb q1 q2 q3 q4 q5 kL
  go_loopw [23] (fun v wr => ∃ k : Nat, k ≤ m ∧ v = .int .i64 k ∧ (∀ j, j < k → okAt f s ch j) ∧ Below X.heap.size X wr) (fun v _ => m - (intOf v).toNat)
  case atStart => exact ⟨0, Nat.zero_le _, rfl, fun j hj => by omega, YB.out⟩
  case round =>
    obtain ⟨k, hk, rfl, hok, hbe⟩ := hrel
    have HOK := hide1 hok
    clear hok
    by_cases hlt : k < m
    · have bk : (k : Int) < (m : Int) := by omega
      have bk2 : (k : Int) < 4096 := by omega
      obtain ⟨ga, oa, rfl, hga, ra⟩ := HP.out.at0 hlt
      obtain ⟨gb, ob, rfl, hgb, rb⟩ := HS.out.at0 hlt
      have hbw := XB.out.trans (hbe.mono XB.out.size)
      have hra := range_two (HGP.out (2 * k)).1 (ra wr hbw k hlt).1 (ra wr hbw k hlt).2
      have RB := hide1 (fun V (h : Below w.heap.size w V) => rb V h k hlt)
      have hpl := (HGP.out (2 * k)).1
      have hql := (HGP.out (2 * k + 1)).1
      have HPQ : Hid ((f (2 * k)).length = 32 ∧ (f (2 * k + 1)).length = 32) := ⟨hpl, hql⟩
      have hP := hiP hpl hql
      have hP' := hiP' hpl hql
      have HZ : Shy ((u8s (zeros 64)).toArray.size = (u8s (f (2 * k) ++ f (2 * k + 1))).toArray.size) := ⟨by simp [u8s, zeros, hpl, hql]⟩
      have hi' := hi23' (HGS.out k).1
      obtain ⟨bc, hbc⟩ : ∃ bc, bc = ch.getD k false := ⟨_, rfl⟩
      obtain ⟨r, hr⟩ : ∃ r, r = pick bc (f (2 * k)) (f (2 * k + 1)) := ⟨_, rfl⟩
      have hrg : r.length = 32 ∧ Lt 256 r := by
        rw [hr, pick]
        split
        · exact HGP.out _
        · exact HGP.out _
      have heq := fun w => eq_seeds (HGS.out k).1 hrg.1 (HGS.out k).2 hrg.2 w
      have hoi : okAt f s ch k ↔ s k = r := by rw [okAt, ← hbc, ← hr]
      obtain ⟨bb, hbb⟩ : ∃ bb, bb = decide (s k = r) := ⟨_, rfl⟩
      have HBB : Shy (bb = decide (okAt f s ch k)) := ⟨by rw [hbb, decide_eq_decide]; exact hoi.symm⟩
      rw [← hbb] at heq
      have kP : Hid (∀ V, Calls Tryd.prog 41 #[.agg (u8s (f (2 * k) ++ f (2 * k + 1))).toArray, .bool bc] V fun e w' => e = .returned (.agg (u8s r).toArray) ∧ Below V.heap.size V w') := fun V => by rw [hr]; exact pchosen_any _ _ bc V hpl hql
      have kG : Hid (∀ V, Below w.heap.size w V → Calls Tryd.prog 21 #[.agg #[.int .i64 (m : Int), .slice av (T.need m 64) (T.need m 64)], .int .i64 (k : Int)] V fun e w' => e = .returned (.bool bc) ∧ ∃ q os, w' = Sort.grow (V.drewN q) os) := fun V hV => by
        rw [hbc, ← T.getI_nat]
        exact T.get_any 0 V m av ch (k : Int) (HV.out.below hV (Nat.le_refl _)) (by omega)
      generalize f (2 * k) = p at *
      generalize f (2 * k + 1) = q at *
      generalize s k = sk at *
      obtain ⟨ja, hja⟩ : ∃ j, j = oa + k * 64 := ⟨_, rfl⟩
      obtain ⟨jb, hjb⟩ : ∃ j, j = ob + k * 32 := ⟨_, rfl⟩
      rw [← hja] at hra
      rw [← hjb] at RB
      have eja : oa + k * 64 = ja := hja.symm
      have ejb : ob + k * 32 = jb := hjb.symm
      have HE := hide1 hbe
      have HBW := hide1 hbw
      have HRA := hide1 hra
      clear hbe hbw ra rb hpl hql hbc hr hrg hoi hbb hja hjb hra hga hgb
      go_upto_region 6 with (first
        | (refine wpList_load_mid rfl 74 (.tmp 26) rfl ga ja rfl (u8s (p ++ q)) _ HRA.out Tryd.underlying74 rfl hP' ?_)
        | (refine wpList_store_own rfl 74 (.tmp 8) (.tmp 27) rfl wr.heap.size rfl (u8s (p ++ q)).toArray rfl 74 _ (heap_alloc_new wr (row8 74 (zeros 64))) hP HZ.out (all_one (u8s_one _)) ?_)
        | fail)
      generalize hZ : World.setRow _ _ _ = Z
      have z0 : Z.heap[wr.heap.size]? = some (.cells (u8s (p ++ q)).toArray 74 (0, 0)) := by rw [← hZ]; exact setRow_heap _ _ _ _ _ _ (heap_alloc_new _ _)
      have zb : Below wr.heap.size wr Z := by rw [← hZ]; exact Below.setRow' ((Below.refl _ _).alloc (Nat.le_refl _) _) (Nat.le_refl _) _
      obtain ⟨gz, hgz⟩ : ∃ g, g = wr.heap.size := ⟨_, rfl⟩
      have ZW := hide1 (HBW.out.trans (zb.mono HBW.out.size))
      have ZX := hide1 (HE.out.trans (zb.mono HE.out.size))
      have XV := hide1 ((ZX.out.block _ (lt_heap X0.out)).trans X0.out)
      rw [← hgz] at z0 ⊢
      have Z0 := hide1 z0
      clear hZ z0 zb hgz HE HBW HRA HZ
      refine region_f (F := []) (S := fun W' => Below Z.heap.size Z W') (by kernel_rfl) (Below.refl _ _).drew (fun hS => ?_)
      refine take_p 0 28 (.slice (some ⟨gb, ob, none⟩) m d) rfl rfl (by kernel_rfl) (by kernel_rfl) (by kernel_rfl) (fun _ _ _ h => h) rfl (fun w => by go_simp) ?_
      try simp only [List.setIfInBounds_toArray, List.set_cons_zero, List.set_cons_succ]
      refine take_p 1 29 (.int .i64 (k : Int)) rfl rfl (by kernel_rfl) (by kernel_rfl) (by kernel_rfl) (fun _ _ _ h => h) rfl (fun w => by go_simp) ?_
      try simp only [List.setIfInBounds_toArray, List.set_cons_zero, List.set_cons_succ]
      refine take_p 2 30 (.pointer (some ⟨gb, jb, none⟩)) rfl rfl (by kernel_rfl) (by kernel_rfl) (by kernel_rfl) (fun _ _ _ h => h) rfl (fun w => by go_simp) ?_
      try simp only [List.setIfInBounds_toArray, List.set_cons_zero, List.set_cons_succ]
      refine take_f 3 31 (.agg (u8s sk).toArray) [9] rfl rfl (by kernel_rfl) (by kernel_rfl) (by kernel_rfl) (by kernel_rfl) (by kernel_rfl) (by kernel_rfl) (fun _ _ _ h => h) rfl (fun w hSw => by exact exec_load_mid 28 _ rfl _ _ rfl (u8s sk) _ (RB.out _ (ZW.out.trans (hSw.mono ZW.out.size))) Tryd.underlying28 rfl hi') hS ?_
      try simp only [List.setIfInBounds_toArray, List.set_cons_zero, List.set_cons_succ]
      refine take_f 4 32 (.agg (u8s (p ++ q)).toArray) [8, 9] rfl rfl (by kernel_rfl) (by kernel_rfl) (by kernel_rfl) (by kernel_rfl) (by kernel_rfl) (by kernel_rfl) (fun _ _ _ h => h) rfl (fun w hSw => by exact exec_load_box 74 _ rfl _ rfl 74 _ _ ((hSw.block _ (lt_heap Z0.out)).trans Z0.out) Tryd.underlying74 rfl hP) hS ?_
      try simp only [List.setIfInBounds_toArray, List.set_cons_zero, List.set_cons_succ]
      refine take_f 5 33 (.agg #[.int .i64 (m : Int), .slice av (T.need m 64) (T.need m 64)]) [7, 8, 9] rfl rfl (by kernel_rfl) (by kernel_rfl) (by kernel_rfl) (by kernel_rfl) (by kernel_rfl) (by kernel_rfl) (fun _ _ _ h => h) rfl (fun w hSw => by obtain ⟨h1, h2, _⟩ := T.box2 ((hSw.block _ (lt_heap XV.out)).trans XV.out); go_simp) hS ?_
      try simp only [List.setIfInBounds_toArray, List.set_cons_zero, List.set_cons_succ]
      refine take_p 6 34 (.int .i64 (k : Int)) rfl rfl (by kernel_rfl) (by kernel_rfl) (by kernel_rfl) (fun _ _ _ h => h) rfl (fun w => by go_simp) ?_
      try simp only [List.setIfInBounds_toArray, List.set_cons_zero, List.set_cons_succ]
      refine ready_f 7 (o := { dst := some 35, op := Op.call { callee := Callee.value (Operand.func 21), args := #[Operand.tmp 33, Operand.tmp 34], argTypes := #[41, 3] }, type := 4, pos := "rot.go:72", after := #[{ on := 5, ground := Ground.data }, { on := 6, ground := Ground.data }], guard := none }) (by kernel_rfl) rfl (fun K hK => ?_)
      go_simp
      refine (kG.out _ (ZW.out.trans (hS.mono ZW.out.size))).mono ?_
      rintro e w1 ⟨rfl, hg1⟩
      have hS1 : Below Z.heap.size Z w1 := hS.trans ((T.gr_below hg1).mono hS.size)
      refine hK.out _ _ (fun _ _ => hS1) ?_
      clear hg1
      clear hK K
      try simp only [Act.put, List.setIfInBounds_toArray, List.set_cons_zero, List.set_cons_succ]
      refine ready_f 8 (o := { dst := some 36, op := Op.call { callee := Callee.value (Operand.func 41), args := #[Operand.tmp 32, Operand.tmp 35], argTypes := #[74, 4] }, type := 28, pos := "rot.go:72", after := #[{ on := 4, ground := Ground.data }, { on := 7, ground := Ground.data }, { on := 7, ground := Ground.chain }], guard := none }) (by kernel_rfl) rfl (fun K hK => ?_)
      go_simp
      refine (kP.out _).mono ?_
      rintro e w2 ⟨rfl, hb2⟩
      have hS2 : Below Z.heap.size Z w2 := hS1.trans (hb2.mono hS1.size)
      refine hK.out _ _ (fun _ _ => hS2) ?_
      clear hb2
      clear hK K
      try simp only [Act.put, List.setIfInBounds_toArray, List.set_cons_zero, List.set_cons_succ]
      refine take_p 9 37 (.bool (!bb)) rfl rfl (by kernel_rfl) (by kernel_rfl) (by kernel_rfl) (fun _ _ _ h => h) rfl (fun w => by exact exec_neq_seed _ _ 28 rfl rfl rfl (heq w)) ?_
      try simp only [List.setIfInBounds_toArray, List.set_cons_zero, List.set_cons_succ]
      refine done_f (by kernel_rfl) ?_ _
      have HS2 := hide1 (ZX.out.trans (hS2.mono ZX.out.size))
      clear hS2 heq
      cases bb with
      | true =>
        have hkk : okAt f s ch k := of_decide_eq_true HBB.out.symm
        have HKK := hide1 hkk
        clear hkk
        go_wp2
        go_roundw
        case rel =>
          refine ⟨k + 1, by omega, by go_num, fun j hj => ?_, HS2.out⟩
          by_cases e : j = k
          · rw [e]; exact HKK.out
          · exact HOK.out j (by omega)
        case measure => simp [intOf]; omega
      | false =>
        have HKK := hide1 (chs_no hlt (of_decide_eq_false HBB.out.symm))
        go_wp2
        go_ret
        rw [HKK.out]
        exact ⟨rfl, XB.out.trans (HS2.out.mono XB.out.size)⟩
    · obtain rfl : k = m := by omega
      have HY := hide1 (chs_yes HOK.out)
      have HE := hide1 (XB.out.trans (hbe.mono XB.out.size))
      clear hbe
      go_wp2
      go_ret
      rw [HY.out]
      exact ⟨rfl, HE.out⟩

theorem chosen_any (f s : Nat → List Nat) (ch : List Bool) (m n N c d : Nat) (a b av : Option Addr) (w : World) (hp : Pd w m a f) (hs : Sd w n b s) (hv : T.Vc 0 w N av ch) (hm : m ≤ 4096) (hn : n ≤ 4096) (hN : N ≤ 4096) :
    Calls Tryd.prog 23 #[.slice a m c, .slice b n d, .agg #[.int .i64 (N : Int), .slice av (T.need N 64) (T.need N 64)]] w fun e w' => e = .returned (.bool (chs f s ch m n N)) ∧ Below w.heap.size w w' := by
  by_cases h : m = n ∧ m = N
  · obtain ⟨rfl, rfl⟩ := h
    exact chosen_same f s ch m c d a b av w hp hs hv hm
  · exact chosen_len f s ch m n N c d a b av w (by omega) (by omega) (by omega) h
end Go.Proofs.YtlkkninnfiaedaaDoor.Ro
