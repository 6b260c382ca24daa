/- Order: which class is ahead. -/
import Derived.Test.YtnkdbkhgfakjaaaKn
import Derived.Test.YtnkdbkhgfakjaaaKi
namespace Go.Proofs.Ytnkdbkhgfakjaaa
open Go.RowKit
set_option maxRecDepth 100000
attribute [local go_sem] not_any mf_any

def cmpI (x y : Int) : Int := if x < y then -1 else if y < x then 1 else 0
theorem cmp_any (x y : Int) (w : World) : Calls Try.prog 27 #[.int .i64 x, .int .i64 y] w fun e w' => e = .returned (.int .i64 (cmpI x y)) ∧ w' = w := by
  unfold cmpI
  by_cases h : x < y
  · rw [if_pos h]
    go_enter Try.func27, Try.ntmps27
    go_wp2
    go_ret
    exact ⟨rfl, rfl⟩
  · rw [if_neg h]
    by_cases h' : y < x
    · rw [if_pos h']
      go_enter Try.func27, Try.ntmps27
      go_wp2
      go_ret
      exact ⟨rfl, rfl⟩
    · rw [if_neg h']
      go_enter Try.func27, Try.ntmps27
      go_wp2
      go_ret
      exact ⟨rfl, rfl⟩

def orF : List Int → Int
  | [] => 0
  | x :: l => if x ≠ 0 then x else orF l
def ordF : List Int → List Int → Int
  | x :: xs, y :: ys => if x < y then -1 else if y < x then 1 else ordF xs ys
  | _, _ => 0
theorem orF_ordF : ∀ xs ys : List Int, orF (List.zipWith cmpI xs ys) = ordF xs ys
  | [], _ => by simp [orF, ordF]
  | _ :: _, [] => by simp [orF, ordF]
  | x :: xs, y :: ys => by
    simp only [List.zipWith_cons_cons, orF, ordF, cmpI]
    rw [orF_ordF xs ys]
    split
    · simp
    · split <;> simp

/- numbers in a block of their own -/
def irow (l : List Int) : Obj := .cells (l.map (fun x => Value.int .i64 x)).toArray 3 (0, 0)
theorem irow_cell {w : World} {g k : Nat} {l : List Int} {x : Int} (h : w.heap[g]? = some (irow l)) (hx : l[k]? = some x) : w.cell? ⟨g, k, none⟩ = some (.int .i64 x) := by
  rw [cell_of_row w g k _ _ _ h]
  simp [hx]
theorem drop_at {l : List Int} {k : Nat} {x : Int} (h : l[k]? = some x) : l.drop k = x :: l.drop (k + 1) := by
  obtain ⟨h1, h2⟩ := List.getElem?_eq_some_iff.1 h
  rw [List.drop_eq_getElem_cons h1, h2]
theorem get_lt {l : List Int} {k : Nat} (h : k < l.length) : ∃ x, l[k]? = some x := ⟨l[k], List.getElem?_eq_getElem h⟩

set_option maxHeartbeats 1000000 in
theorem or_any (g : Nat) (l : List Int) (w : World) (hl : l.length = 5) (hg : w.heap[g]? = some (irow l)) :
    Calls Try.prog 26 #[.slice (some ⟨g, 0, none⟩) 5 5] w fun e w' => e = .returned (.int .i64 (orF l)) ∧ w' = w := by
  have HG := hide1 hg
  have hgl := lt_heap hg
  clear hg
  go_enter Try.func26, Try.ntmps26
  go_wp2
  go_loop [8] (fun i => ∃ k : Nat, k ≤ 5 ∧ i = .int .i64 k ∧ orF l = orF (l.drop k)) (fun i => 5 - (intOf i).toNat)
  case atStart => exact ⟨0, Nat.zero_le _, rfl, rfl⟩
  case round =>
    obtain ⟨k, hk, rfl, he⟩ := hrel
    by_cases hlt : k < 5
    · obtain ⟨x, hx⟩ := get_lt (l := l) (k := k) (by omega)
      have hc := irow_cell HG.out hx
      rw [drop_at hx] at he
      have HE : Shy (orF l = orF (x :: l.drop (k + 1))) := ⟨he⟩
      clear he hx
      by_cases hz : x = 0
      · subst hz
        go_wp2
        go_round
        case rel => exact ⟨k + 1, by omega, by go_num, by rw [HE.out]; simp [orF]⟩
        case measure => simp [intOf]; omega
      · have hz' : (x != 0) = true := by simpa using hz
        go_wp2
        go_ret
        rw [HE.out, orF, if_pos hz]
        exact ⟨rfl, rfl⟩
    · obtain rfl : k = 5 := by omega
      rw [List.drop_of_length_le (by omega)] at he
      have HE : Shy (orF l = 0) := ⟨he⟩
      clear he
      go_wp2
      go_ret
      rw [HE.out]
      exact ⟨rfl, rfl⟩

theorem zip5 (a0 a1 a2 a3 a4 b0 b1 b2 b3 b4 : Int) : orF [cmpI a0 b0, cmpI a1 b1, cmpI a2 b2, cmpI a3 b3, cmpI a4 b4] = ordF [a0, a1, a2, a3, a4] [b0, b1, b2, b3, b4] := orF_ordF [a0, a1, a2, a3, a4] [b0, b1, b2, b3, b4]

set_option maxHeartbeats 2000000 in
theorem order_any (a0 a1 a2 a3 a4 v0 v1 v2 v3 v4 : Int) (w : World) :
    Calls Try.prog 19 #[cls a0 a1 a2 a3 a4, cls v0 v1 v2 v3 v4] w fun e w' => e = .returned (.int .i64 (ordF [a0, a1, a2, a3, a4] [v0, v1, v2, v3, v4])) ∧ Below w.heap.size w w' := by
  have k0 := fun w => hide1 (cmp_any a0 v0 w)
  have k1 := fun w => hide1 (cmp_any a1 v1 w)
  have k2 := fun w => hide1 (cmp_any a2 v2 w)
  have k3 := fun w => hide1 (cmp_any a3 v3 w)
  have k4 := fun w => hide1 (cmp_any a4 v4 w)
  have kO := fun g w h => hide1 (or_any g [cmpI a0 v0, cmpI a1 v1, cmpI a2 v2, cmpI a3 v3, cmpI a4 v4] w rfl h)
  rw [zip5] at kO
  generalize ordF [a0, a1, a2, a3, a4] [v0, v1, v2, v3, v4] = r at *
  generalize cmpI a0 v0 = c0 at *
  generalize cmpI a1 v1 = c1 at *
  generalize cmpI a2 v2 = c2 at *
  generalize cmpI a3 v3 = c3 at *
  generalize cmpI a4 v4 = c4 at *
  unfold cls
  go_enter Try.func19, Try.ntmps19
  go_upto_region 1 with (fail)
  generalize hX : World.alloc (World.alloc w _) _ = X
  have HX : Hid (Below w.heap.size w X) := by rw [← hX]; exact ((Below.refl _ _).alloc (Nat.le_refl _) _).alloc (by simp) _
  have h0 := hX ▸ heap_alloc2_old w _ _
  have h1 := hX ▸ heap_alloc2_new w _ _
  obtain ⟨b2, hb2⟩ : ∃ b, w.heap.size + 1 = b := ⟨_, rfl⟩
  obtain ⟨b1, hb1⟩ : ∃ b, w.heap.size = b := ⟨_, rfl⟩
  rw [hb2] at h1 ⊢
  rw [hb1] at h0 ⊢
  obtain ⟨p0, p1, p2, p3, p4, l0⟩ := box5 h0
  obtain ⟨d0, d1, d2, d3, d4, l1⟩ := box5 h1
  have HS : Shy (At5 b1 (.int .i64 a0) (.int .i64 a1) (.int .i64 a2) (.int .i64 a3) (.int .i64 a4) X ∧ At5 b2 (.int .i64 v0) (.int .i64 v1) (.int .i64 v2) (.int .i64 v3) (.int .i64 v4) X) := ⟨⟨p0, p1, p2, p3, p4⟩, ⟨d0, d1, d2, d3, d4⟩⟩
  clear hX h0 h1 hb1 hb2 p0 p1 p2 p3 p4 l0 d0 d1 d2 d3 d4 l1
  refine region_f (F := [25, 26]) (S := fun W => At5 b1 (.int .i64 a0) (.int .i64 a1) (.int .i64 a2) (.int .i64 a3) (.int .i64 a4) W ∧ At5 b2 (.int .i64 v0) (.int .i64 v1) (.int .i64 v2) (.int .i64 v3) (.int .i64 v4) W) (by kernel_rfl) HS.out (fun hS => ?_)
  refine take_p 0 5 (.pointer (some ⟨b1, 0, none⟩)) rfl rfl (by kernel_rfl) (by kernel_rfl) (by kernel_rfl) (fun _ _ _ h => h) rfl (fun w => by go_simp) ?_
  try simp only [List.setIfInBounds_toArray, List.set_cons_zero, List.set_cons_succ]
  refine take_f 1 6 (.int .i64 a0) [4, 9, 14, 19, 24, 25, 26, 27] rfl rfl (by kernel_rfl) (by kernel_rfl) (by kernel_rfl) (by kernel_rfl) (by kernel_rfl) (by kernel_rfl) (fun _ _ _ h => h) rfl (fun w hSw => by obtain ⟨⟨g0, g1, g2, g3, g4⟩, ⟨h0, h1, h2, h3, h4⟩⟩ := hSw; go_simp) hS ?_
  try simp only [List.setIfInBounds_toArray, List.set_cons_zero, List.set_cons_succ]
  refine take_p 2 7 (.pointer (some ⟨b2, 0, none⟩)) rfl rfl (by kernel_rfl) (by kernel_rfl) (by kernel_rfl) (fun _ _ _ h => h) rfl (fun w => by go_simp) ?_
  try simp only [List.setIfInBounds_toArray, List.set_cons_zero, List.set_cons_succ]
  refine take_f 3 8 (.int .i64 v0) [4, 9, 14, 19, 24, 25, 26, 27] rfl rfl (by kernel_rfl) (by kernel_rfl) (by kernel_rfl) (by kernel_rfl) (by kernel_rfl) (by kernel_rfl) (fun _ _ _ h => h) rfl (fun w hSw => by obtain ⟨⟨g0, g1, g2, g3, g4⟩, ⟨h0, h1, h2, h3, h4⟩⟩ := hSw; go_simp) hS ?_
  try simp only [List.setIfInBounds_toArray, List.set_cons_zero, List.set_cons_succ]
  refine take_p 5 10 (.pointer (some ⟨b1, 1, none⟩)) rfl rfl (by kernel_rfl) (by kernel_rfl) (by kernel_rfl) (fun _ _ _ h => h) rfl (fun w => by go_simp) ?_
  try simp only [List.setIfInBounds_toArray, List.set_cons_zero, List.set_cons_succ]
  refine take_f 6 11 (.int .i64 a1) [9, 14, 19, 24, 25, 26, 27] rfl rfl (by kernel_rfl) (by kernel_rfl) (by kernel_rfl) (by kernel_rfl) (by kernel_rfl) (by kernel_rfl) (fun _ _ _ h => h) rfl (fun w hSw => by obtain ⟨⟨g0, g1, g2, g3, g4⟩, ⟨h0, h1, h2, h3, h4⟩⟩ := hSw; go_simp) hS ?_
  try simp only [List.setIfInBounds_toArray, List.set_cons_zero, List.set_cons_succ]
  refine take_p 7 12 (.pointer (some ⟨b2, 1, none⟩)) rfl rfl (by kernel_rfl) (by kernel_rfl) (by kernel_rfl) (fun _ _ _ h => h) rfl (fun w => by go_simp) ?_
  try simp only [List.setIfInBounds_toArray, List.set_cons_zero, List.set_cons_succ]
  refine take_f 8 13 (.int .i64 v1) [9, 14, 19, 24, 25, 26, 27] rfl rfl (by kernel_rfl) (by kernel_rfl) (by kernel_rfl) (by kernel_rfl) (by kernel_rfl) (by kernel_rfl) (fun _ _ _ h => h) rfl (fun w hSw => by obtain ⟨⟨g0, g1, g2, g3, g4⟩, ⟨h0, h1, h2, h3, h4⟩⟩ := hSw; go_simp) hS ?_
  try simp only [List.setIfInBounds_toArray, List.set_cons_zero, List.set_cons_succ]
  refine take_p 10 15 (.pointer (some ⟨b1, 2, none⟩)) rfl rfl (by kernel_rfl) (by kernel_rfl) (by kernel_rfl) (fun _ _ _ h => h) rfl (fun w => by go_simp) ?_
  try simp only [List.setIfInBounds_toArray, List.set_cons_zero, List.set_cons_succ]
  refine take_f 11 16 (.int .i64 a2) [14, 19, 24, 25, 26, 27] rfl rfl (by kernel_rfl) (by kernel_rfl) (by kernel_rfl) (by kernel_rfl) (by kernel_rfl) (by kernel_rfl) (fun _ _ _ h => h) rfl (fun w hSw => by obtain ⟨⟨g0, g1, g2, g3, g4⟩, ⟨h0, h1, h2, h3, h4⟩⟩ := hSw; go_simp) hS ?_
  try simp only [List.setIfInBounds_toArray, List.set_cons_zero, List.set_cons_succ]
  refine take_p 12 17 (.pointer (some ⟨b2, 2, none⟩)) rfl rfl (by kernel_rfl) (by kernel_rfl) (by kernel_rfl) (fun _ _ _ h => h) rfl (fun w => by go_simp) ?_
  try simp only [List.setIfInBounds_toArray, List.set_cons_zero, List.set_cons_succ]
  refine take_f 13 18 (.int .i64 v2) [14, 19, 24, 25, 26, 27] rfl rfl (by kernel_rfl) (by kernel_rfl) (by kernel_rfl) (by kernel_rfl) (by kernel_rfl) (by kernel_rfl) (fun _ _ _ h => h) rfl (fun w hSw => by obtain ⟨⟨g0, g1, g2, g3, g4⟩, ⟨h0, h1, h2, h3, h4⟩⟩ := hSw; go_simp) hS ?_
  try simp only [List.setIfInBounds_toArray, List.set_cons_zero, List.set_cons_succ]
  refine take_p 15 20 (.pointer (some ⟨b1, 3, none⟩)) rfl rfl (by kernel_rfl) (by kernel_rfl) (by kernel_rfl) (fun _ _ _ h => h) rfl (fun w => by go_simp) ?_
  try simp only [List.setIfInBounds_toArray, List.set_cons_zero, List.set_cons_succ]
  refine take_f 16 21 (.int .i64 a3) [19, 24, 25, 26, 27] rfl rfl (by kernel_rfl) (by kernel_rfl) (by kernel_rfl) (by kernel_rfl) (by kernel_rfl) (by kernel_rfl) (fun _ _ _ h => h) rfl (fun w hSw => by obtain ⟨⟨g0, g1, g2, g3, g4⟩, ⟨h0, h1, h2, h3, h4⟩⟩ := hSw; go_simp) hS ?_
  try simp only [List.setIfInBounds_toArray, List.set_cons_zero, List.set_cons_succ]
  refine take_p 17 22 (.pointer (some ⟨b2, 3, none⟩)) rfl rfl (by kernel_rfl) (by kernel_rfl) (by kernel_rfl) (fun _ _ _ h => h) rfl (fun w => by go_simp) ?_
  try simp only [List.setIfInBounds_toArray, List.set_cons_zero, List.set_cons_succ]
  refine take_f 18 23 (.int .i64 v3) [19, 24, 25, 26, 27] rfl rfl (by kernel_rfl) (by kernel_rfl) (by kernel_rfl) (by kernel_rfl) (by kernel_rfl) (by kernel_rfl) (fun _ _ _ h => h) rfl (fun w hSw => by obtain ⟨⟨g0, g1, g2, g3, g4⟩, ⟨h0, h1, h2, h3, h4⟩⟩ := hSw; go_simp) hS ?_
  try simp only [List.setIfInBounds_toArray, List.set_cons_zero, List.set_cons_succ]
  refine take_p 20 25 (.pointer (some ⟨b1, 4, none⟩)) rfl rfl (by kernel_rfl) (by kernel_rfl) (by kernel_rfl) (fun _ _ _ h => h) rfl (fun w => by go_simp) ?_
  try simp only [List.setIfInBounds_toArray, List.set_cons_zero, List.set_cons_succ]
  refine take_f 21 26 (.int .i64 a4) [24, 25, 26, 27] rfl rfl (by kernel_rfl) (by kernel_rfl) (by kernel_rfl) (by kernel_rfl) (by kernel_rfl) (by kernel_rfl) (fun _ _ _ h => h) rfl (fun w hSw => by obtain ⟨⟨g0, g1, g2, g3, g4⟩, ⟨h0, h1, h2, h3, h4⟩⟩ := hSw; go_simp) hS ?_
  try simp only [List.setIfInBounds_toArray, List.set_cons_zero, List.set_cons_succ]
  refine take_p 22 27 (.pointer (some ⟨b2, 4, none⟩)) rfl rfl (by kernel_rfl) (by kernel_rfl) (by kernel_rfl) (fun _ _ _ h => h) rfl (fun w => by go_simp) ?_
  try simp only [List.setIfInBounds_toArray, List.set_cons_zero, List.set_cons_succ]
  refine take_f 23 28 (.int .i64 v4) [24, 25, 26, 27] rfl rfl (by kernel_rfl) (by kernel_rfl) (by kernel_rfl) (by kernel_rfl) (by kernel_rfl) (by kernel_rfl) (fun _ _ _ h => h) rfl (fun w hSw => by obtain ⟨⟨g0, g1, g2, g3, g4⟩, ⟨h0, h1, h2, h3, h4⟩⟩ := hSw; go_simp) hS ?_
  try simp only [List.setIfInBounds_toArray, List.set_cons_zero, List.set_cons_succ]
  refine ready_f 4 (o := { dst := some 9, op := Op.call { callee := Callee.value (Operand.func 27), args := #[Operand.tmp 6, Operand.tmp 8], argTypes := #[3, 3] }, type := 3, pos := "shape.go:101", after := #[{ on := 1, ground := Ground.data }, { on := 3, ground := Ground.data }], guard := none }) (by kernel_rfl) rfl (fun K hK => ?_)
  go_simp
  refine (k0 _).out.mono ?_
  rintro e w' ⟨rfl, rfl⟩
  refine hK.out _ _ (fun _ h => h) ?_
  clear hK K
  try simp only [Act.put, List.setIfInBounds_toArray, List.set_cons_zero, List.set_cons_succ]
  refine ready_f 9 (o := { dst := some 14, op := Op.call { callee := Callee.value (Operand.func 27), args := #[Operand.tmp 11, Operand.tmp 13], argTypes := #[3, 3] }, type := 3, pos := "shape.go:102", after := #[{ on := 6, ground := Ground.data }, { on := 8, ground := Ground.data }, { on := 4, ground := Ground.chain }], guard := none }) (by kernel_rfl) rfl (fun K hK => ?_)
  go_simp
  refine (k1 _).out.mono ?_
  rintro e w' ⟨rfl, rfl⟩
  refine hK.out _ _ (fun _ h => h) ?_
  clear hK K
  try simp only [Act.put, List.setIfInBounds_toArray, List.set_cons_zero, List.set_cons_succ]
  refine ready_f 14 (o := { dst := some 19, op := Op.call { callee := Callee.value (Operand.func 27), args := #[Operand.tmp 16, Operand.tmp 18], argTypes := #[3, 3] }, type := 3, pos := "shape.go:103", after := #[{ on := 11, ground := Ground.data }, { on := 13, ground := Ground.data }, { on := 9, ground := Ground.chain }], guard := none }) (by kernel_rfl) rfl (fun K hK => ?_)
  go_simp
  refine (k2 _).out.mono ?_
  rintro e w' ⟨rfl, rfl⟩
  refine hK.out _ _ (fun _ h => h) ?_
  clear hK K
  try simp only [Act.put, List.setIfInBounds_toArray, List.set_cons_zero, List.set_cons_succ]
  refine ready_f 19 (o := { dst := some 24, op := Op.call { callee := Callee.value (Operand.func 27), args := #[Operand.tmp 21, Operand.tmp 23], argTypes := #[3, 3] }, type := 3, pos := "shape.go:104", after := #[{ on := 16, ground := Ground.data }, { on := 18, ground := Ground.data }, { on := 14, ground := Ground.chain }], guard := none }) (by kernel_rfl) rfl (fun K hK => ?_)
  go_simp
  refine (k3 _).out.mono ?_
  rintro e w' ⟨rfl, rfl⟩
  refine hK.out _ _ (fun _ h => h) ?_
  clear hK K
  try simp only [Act.put, List.setIfInBounds_toArray, List.set_cons_zero, List.set_cons_succ]
  refine ready_f 24 (o := { dst := some 29, op := Op.call { callee := Callee.value (Operand.func 27), args := #[Operand.tmp 26, Operand.tmp 28], argTypes := #[3, 3] }, type := 3, pos := "shape.go:105", after := #[{ on := 21, ground := Ground.data }, { on := 23, ground := Ground.data }, { on := 19, ground := Ground.chain }], guard := none }) (by kernel_rfl) rfl (fun K hK => ?_)
  go_simp
  refine (k4 _).out.mono ?_
  rintro e w' ⟨rfl, rfl⟩
  refine hK.out _ _ (fun _ h => h) ?_
  clear hK K
  try simp only [Act.put, List.setIfInBounds_toArray, List.set_cons_zero, List.set_cons_succ]
  refine ready_f 25 (o := { dst := some 30, op := Op.buildSlice 26 5 #[(0, Operand.tmp 9), (1, Operand.tmp 14), (2, Operand.tmp 19), (3, Operand.tmp 24), (4, Operand.tmp 29)], type := 26, pos := "shape.go:100", after := #[{ on := 4, ground := Ground.data }, { on := 9, ground := Ground.data }, { on := 14, ground := Ground.data }, { on := 19, ground := Ground.data }, { on := 24, ground := Ground.data }], guard := none }) (by kernel_rfl) rfl (fun K hK => ?_)
  go_simp
  refine hK.out _ _ (fun h => absurd (by decide) h) ?_
  clear hK K
  try simp only [Act.put, List.setIfInBounds_toArray, List.set_cons_zero, List.set_cons_succ]
  refine ready_f 26 (o := { dst := some 31, op := Op.call { callee := Callee.value (Operand.func 26), args := #[Operand.tmp 30], argTypes := #[26] }, type := 3, pos := "shape.go:100", after := #[{ on := 25, ground := Ground.data }, { on := 24, ground := Ground.chain }], guard := none }) (by kernel_rfl) rfl (fun K hK => ?_)
  go_simp
  refine (kO X.heap.size (World.drew (X.alloc (irow [c0, c1, c2, c3, c4]))) (heap_alloc_new X _)).out.mono ?_
  rintro e w' ⟨rfl, hw⟩
  cases hw
  refine hK.out _ _ (fun h => absurd (by decide) h) ?_
  clear hK K
  try simp only [Act.put, List.setIfInBounds_toArray, List.set_cons_zero, List.set_cons_succ]
  refine take_p 27 4 (.int .i64 r) rfl rfl (by kernel_rfl) (by kernel_rfl) (by kernel_rfl) (fun _ _ _ h => h) rfl (fun w => by go_simp) ?_
  try simp only [List.setIfInBounds_toArray, List.set_cons_zero, List.set_cons_succ]
  refine done_f (by kernel_rfl) ?_ _
  go_wp2
  go_ret
  exact ⟨rfl, (HX.out.alloc HX.out.size _).drew⟩

end Go.Proofs.Ytnkdbkhgfakjaaa
