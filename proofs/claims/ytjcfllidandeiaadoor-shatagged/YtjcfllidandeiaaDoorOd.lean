/- Digests compared; the walk of ShaNobody. -/
import Derived.Test.YtjcfllidandeiaaDoorOc
import Derived.Test.YtjcfllidandeiaaDoorW
import Derived.Stop.BytesEq
namespace Go.Proofs.YtjcfllidandeiaaDoor
open Go.RowKit
set_option maxRecDepth 100000
attribute [local go_sem] not_any

theorem flat_lt (h : List Nat) : Lt 256 (h.flatMap bytesP) := by
  intro x hx
  rw [List.mem_flatMap] at hx
  obtain ⟨y, _, hy⟩ := hx
  simp [bytesP] at hy
  omega
theorem sumP_lt (l : List Nat) : Lt 256 (sumP l) := by
  unfold sumP
  split <;> exact flat_lt _

theorem u8s_cells {l : List Nat} (h : Lt 256 l) : u8s l = (l.map UInt8.ofNat).map Extern.Stop.cell := by
  unfold u8s
  rw [List.map_map]
  apply List.map_congr_left
  intro x hx
  have := h x hx
  simp [Extern.Stop.cell, Nat.mod_eq_of_lt this]

theorem eq_digest {l : List Nat} (hl : l.length = 32) (ht : Lt 256 l) (w : World) :
    (Op.equalIn 10000 24 (.agg (u8s l).toArray) (.agg (u8s l).toArray)).run Tryd.prog w = .ok true w := by
  rw [u8s_cells ht, run_equalIn_bytes w 9998 24 5 32 Tryd.underlying24 Tryd.underlying5 (fun w => by kernel_rfl) _ _ (by rw [List.length_map, hl]) (by rw [List.length_map, hl])]
  simp
theorem guard24 : Tryd.prog.eqGuardType Tryd.prog.depth 24 = false := by kernel_rfl

theorem empty_nums : nums { data := #[] } = [] := rfl

set_option maxHeartbeats 2000000 in
theorem shaNobody_any (s : ByteArray) (w : World) (hL : Laid w) :
    Calls Tryd.prog 6 #[.string s] w fun e w' => e = .returned (.bool true) ∧ Below w.heap.size w w' := by
  have HL := hide1 hL
  have hz35 := zero35
  clear hL
  go_enter Tryd.func6, Tryd.ntmps6
  go_wp2_with fail
  refine (write_nil s _).mono ?_
  rintro e w0 ⟨rfl, rfl⟩
  go_wp2_with fail
  generalize hW : World.alloc w0 _ = W
  have h2 : Sums W w0.heap.size (grownP []) (restP []) ([] : List Nat).length := ⟨by rw [← hW]; exact heap_alloc_new _ _, rfl, rfl⟩
  have h3 : Below w0.heap.size w0 W := by rw [← hW]; exact (Below.refl _ _).alloc (Nat.le_refl _) _
  have h4 : w0.heap.size < W.heap.size := lt_heap h2.row
  have H2 := hide1 h2
  have H3 := hide1 h3
  have H4 := hide1 (HL.out.below h3 HL.out.two)
  have hg24 := guard24
  have he0 := fun w => eq_digest (l := zeros 32) rfl (lt_replicate (by omega) 32) w
  have he1 := fun w => eq_digest (sumP_length []) (sumP_lt []) w
  have Hlt := hide1 h4
  clear hW h2 h3 h4
  refine (sum_nil _).mono ?_
  rintro e w1 ⟨rfl, hb1⟩
  have B1 := hide1 hb1
  unfold arr8
  clear hb1
  have z0 : ((0 : Nat) : Int) = 0 := rfl
  simp only [u8s, zeros, List.replicate, List.map, z0] at he0 ⊢
  clear z0
  go_wp2_with fail
  refine (len_nil _).mono ?_
  rintro e w1' ⟨rfl, rfl⟩
  go_wp2_with fail
  refine (sum_any w0.heap.size [] _ (H4.out.below B1.out H4.out.two) HL.out.two (H2.out.to (B1.out.block _ Hlt.out)) lt_nil (by decide)).mono ?_
  rintro e w2 ⟨rfl, hb2⟩
  have B2 : Hid (Below W.heap.size W w2) := B1.out.trans (hb2.mono B1.out.size)
  clear hb2
  unfold arr8
  go_wp2_with fail
  have hR := hide1 (rsum_any { data := #[] } w2 (by decide))
  rw [empty_nums] at hR
  refine hR.out.mono ?_
  rintro e w3 ⟨rfl, hb3⟩
  have B3 : Hid (Below W.heap.size W w3) := B2.out.trans (hb3.mono B2.out.size)
  clear hb3 hR
  unfold arr8
  go_wp2_with fail
  refine (len_any w0.heap.size 0 _ (H2.out.to (B3.out.block _ Hlt.out)).taken).mono ?_
  rintro e w3' ⟨rfl, rfl⟩
  go_wp2_with fail
  refine (awake_any _ (H4.out.below B3.out H4.out.two)).mono ?_
  rintro e w4 ⟨rfl, hb4⟩
  have B4 : Hid (Below W.heap.size W w4) := B3.out.trans (hb4.mono B3.out.size)
  clear hb4
  go_wp2
  go_ret
  exact ⟨rfl, H3.out.trans (B4.out.mono H3.out.size)⟩

set_option maxHeartbeats 2000000 in
theorem shaSums_any (s : ByteArray) (w : World) (hL : Laid w) :
    Calls Tryd.prog 3 #[.string s] w fun e w' => e = .returned (.bool true) ∧ Below w.heap.size w w' := by
  have HL := hide1 hL
  clear hL
  by_cases hs : s.size ≤ 700
  · have hs1 : ¬ (700 < (s.size : Int)) := by omega
    go_enter Tryd.func3, Tryd.ntmps3
    go_wp2_with fail
    refine (shaSum_any s _ HL.out (by omega)).mono ?_
    rintro e w1 ⟨rfl, hb1⟩
    have B1 := hide1 hb1
    clear hb1
    unfold arr8
    have e32 : (u8s (sumP (nums s))).toArray.size = 32 := by simp [u8s, sumP_length]
    have E32 := hide1 e32
    clear e32
    go_upto_region 4 with (first | (refine wpList_store_own rfl 24 (.tmp 3) (.tmp 9) rfl w1.heap.size rfl (u8s (sumP (nums s))).toArray rfl 24 _ (heap_alloc_new _ _) (by rw [E32.out]; kernel_rfl) (by rw [E32.out]; rfl) (all_one (u8s_one _)) ?_) | fail)
    generalize hW : World.setRow _ _ _ = W
    have h1 : W.heap[w1.heap.size]? = some (row8 24 (sumP (nums s))) := by rw [← hW]; exact setRow_heap _ _ _ _ _ _ (heap_alloc_new _ _)
    have h2 : Below w.heap.size w W := by rw [← hW]; exact Below.setRow' (B1.out.alloc B1.out.size _) B1.out.size _
    have HR : Hid (∀ w' : World, Below W.heap.size W w' → w'.heap[w1.heap.size]? = some (row8 24 (sumP (nums s)))) := fun w' hb => (hb.block _ (lt_heap h1)).trans h1
    have H2 := hide1 h2
    have H4 := hide1 (HL.out.below h2 HL.out.two)
    have c1 := fun w => hide1 (low_any _ w (sumP_length (nums s)) (sumP_lt _))
    have c2 := fun w => hide1 (rlow_any _ w (sumP_length (nums s)) (sumP_lt _))
    have c3 := fun w => hide1 (rsum_any s w (by omega))
    have hg24 := guard24
    have he1 := fun w => eq_digest (sumP_length (nums s)) (sumP_lt _) w
    have hu := Tryd.underlying24
    have hi : (Tryd.prog.info? 24).map (·.size) = some (u8s (sumP (nums s))).toArray.size := by rw [E32.out]; kernel_rfl
    unfold arr8 at c1 c2 c3
    clear hW h1 h2 B1 HL
    generalize lowTo (sumP (nums s)) 8 = x at c1 c2
    refine wp_region_held_drew (S := fun w' => Below W.heap.size W w') (by kernel_rfl) ((Below.refl _ _).drew) (fun hS => ?_)
    refine take_at 0 10 (.agg (u8s (sumP (nums s))).toArray) rfl rfl (by kernel_rfl) (by kernel_rfl) (by kernel_rfl) (fun _ _ _ h => h) rfl (fun w hSw => exec_load_row 24 (.tmp 3) rfl _ rfl 24 _ _ _ (HR.out _ hSw) hu hi) hS ?_
    try simp only [List.setIfInBounds_toArray, List.set_cons_zero, List.set_cons_succ]
    refine take_at 1 11 (.string s) rfl rfl (by kernel_rfl) (by kernel_rfl) (by kernel_rfl) (fun _ _ _ h => h) rfl (fun w hSw => by clear hSw; go_simp) hS ?_
    try simp only [List.setIfInBounds_toArray, List.set_cons_zero, List.set_cons_succ]
    refine wpAnyH_ready (rs := [2]) (by kernel_rfl) (by simp) ?_
    refine AllReadyH.cons (o := { dst := some 12, op := .call { callee := .value (.func 10), args := #[.tmp 11], argTypes := #[9] }, type := 24, pos := "law.go:22", after := #[{ on := 1, ground := .data }], guard := none }) rfl (fun K hK => ?_) AllReadyH.nil
    go_simp
    refine (c3 _).out.mono ?_
    rintro e v1 ⟨rfl, hb1⟩
    refine hK.out _ _ (hS.trans (hb1.mono hS.size)) (fun hS' => ?_)
    replace hS := hS'
    clear hK K hS' hb1
    try simp only [Act.put, List.setIfInBounds_toArray, List.set_cons_zero, List.set_cons_succ]
    refine take_at 3 13 (.bool true) rfl rfl (by kernel_rfl) (by kernel_rfl) (by kernel_rfl) (fun _ _ _ h => h) rfl (fun w hSw => by clear hSw; go_simp) hS ?_
    try simp only [List.setIfInBounds_toArray, List.set_cons_zero, List.set_cons_succ]
    refine take_at 4 14 (.bool true) rfl rfl (by kernel_rfl) (by kernel_rfl) (by kernel_rfl) (fun _ _ _ h => h) rfl (fun w hSw => by clear hSw; go_simp) hS ?_
    try simp only [List.setIfInBounds_toArray, List.set_cons_zero, List.set_cons_succ]
    refine take_at 5 15 (.agg (u8s (sumP (nums s))).toArray) rfl rfl (by kernel_rfl) (by kernel_rfl) (by kernel_rfl) (fun _ _ _ h => h) rfl (fun w hSw => exec_load_row 24 (.tmp 3) rfl _ rfl 24 _ _ _ (HR.out _ hSw) hu hi) hS ?_
    try simp only [List.setIfInBounds_toArray, List.set_cons_zero, List.set_cons_succ]
    refine take_at 7 17 (.agg (u8s (sumP (nums s))).toArray) rfl rfl (by kernel_rfl) (by kernel_rfl) (by kernel_rfl) (fun _ _ _ h => h) rfl (fun w hSw => exec_load_row 24 (.tmp 3) rfl _ rfl 24 _ _ _ (HR.out _ hSw) hu hi) hS ?_
    try simp only [List.setIfInBounds_toArray, List.set_cons_zero, List.set_cons_succ]
    refine wpAnyH_ready (rs := [6]) (by kernel_rfl) (by simp) ?_
    refine AllReadyH.cons (o := { dst := some 16, op := .call { callee := .value (.func 11), args := #[.tmp 15], argTypes := #[24] }, type := 26, pos := "law.go:22", after := #[{ on := 5, ground := .data }, { on := 4, ground := .chain }, { on := 4, ground := .guard }], guard := some (4, true) }) rfl (fun K hK => ?_) AllReadyH.nil
    go_simp
    refine (c1 _).out.mono ?_
    rintro e v2 ⟨rfl, hb1⟩
    refine hK.out _ _ (hS.trans (hb1.mono hS.size)) (fun hS' => ?_)
    replace hS := hS'
    clear hK K hS' hb1
    try simp only [Act.put, List.setIfInBounds_toArray, List.set_cons_zero, List.set_cons_succ]
    refine wpAnyH_ready (rs := [8]) (by kernel_rfl) (by simp) ?_
    refine AllReadyH.cons (o := { dst := some 18, op := .call { callee := .value (.func 12), args := #[.tmp 17], argTypes := #[24] }, type := 26, pos := "law.go:22", after := #[{ on := 7, ground := .data }, { on := 6, ground := .chain }, { on := 4, ground := .guard }], guard := some (4, true) }) rfl (fun K hK => ?_) AllReadyH.nil
    go_simp
    refine (c2 _).out.mono ?_
    rintro e v3 ⟨rfl, hb1⟩
    refine hK.out _ _ (hS.trans (hb1.mono hS.size)) (fun hS' => ?_)
    replace hS := hS'
    clear hK K hS' hb1
    try simp only [Act.put, List.setIfInBounds_toArray, List.set_cons_zero, List.set_cons_succ]
    refine take_at 9 19 (.bool true) rfl rfl (by kernel_rfl) (by kernel_rfl) (by kernel_rfl) (fun _ _ _ h => h) rfl (fun w hSw => by clear hSw; go_simp) hS ?_
    try simp only [List.setIfInBounds_toArray, List.set_cons_zero, List.set_cons_succ]
    refine take_at 10 20 (.bool true) rfl rfl (by kernel_rfl) (by kernel_rfl) (by kernel_rfl) (fun _ _ _ h => h) rfl (fun w hSw => by clear hSw; go_simp) hS ?_
    try simp only [List.setIfInBounds_toArray, List.set_cons_zero, List.set_cons_succ]
    refine take_at 11 21 (.bool true) rfl rfl (by kernel_rfl) (by kernel_rfl) (by kernel_rfl) (fun _ _ _ h => h) rfl (fun w hSw => by clear hSw; go_simp) hS ?_
    try simp only [List.setIfInBounds_toArray, List.set_cons_zero, List.set_cons_succ]
    refine wpAnyH_ready (rs := [12]) (by kernel_rfl) (by simp) ?_
    refine AllReadyH.cons (o := { dst := some 22, op := .call { callee := .value (.func 8), args := #[], argTypes := #[] }, type := 4, pos := "law.go:22", after := #[{ on := 11, ground := .chain }, { on := 11, ground := .guard }], guard := some (11, true) }) rfl (fun K hK => ?_) AllReadyH.nil
    go_simp
    refine (awake_any _ (H4.out.below hS H4.out.two)).mono ?_
    rintro e v4 ⟨rfl, hb1⟩
    refine hK.out _ _ (hS.trans (hb1.mono hS.size)) (fun hS' => ?_)
    replace hS := hS'
    clear hK K hS' hb1
    try simp only [Act.put, List.setIfInBounds_toArray, List.set_cons_zero, List.set_cons_succ]
    refine take_at 13 23 (.bool true) rfl rfl (by kernel_rfl) (by kernel_rfl) (by kernel_rfl) (fun _ _ _ h => h) rfl (fun w hSw => by clear hSw; go_simp) hS ?_
    try simp only [List.setIfInBounds_toArray, List.set_cons_zero, List.set_cons_succ]
    refine take_at 14 2 (.bool true) rfl rfl (by kernel_rfl) (by kernel_rfl) (by kernel_rfl) (fun _ _ _ h => h) rfl (fun w hSw => by clear hSw; go_simp) hS ?_
    try simp only [List.setIfInBounds_toArray, List.set_cons_zero, List.set_cons_succ]
    refine wpAnyH_done (by kernel_rfl) ?_ _
    go_wp2
    go_ret
    exact ⟨rfl, H2.out.trans (hS.mono H2.out.size)⟩
  · have hs1 : 700 < (s.size : Int) := by omega
    go_enter Tryd.func3, Tryd.ntmps3
    go_wp2_with fail
    refine (awake_any _ HL.out).mono ?_
    rintro e w1 ⟨rfl, hb1⟩
    go_wp2
    go_ret
    exact ⟨rfl, hb1⟩
end Go.Proofs.YtjcfllidandeiaaDoor
