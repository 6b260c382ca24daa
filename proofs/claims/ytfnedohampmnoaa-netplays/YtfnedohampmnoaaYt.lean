/- Send, Double. -/
import Derived.Test.YtfnedohampmnoaaYn
import Derived.Test.YtfnedohampmnoaaYp
import Derived.Test.YtfnedohampmnoaaYf
import Derived.Test.YtfnedohampmnoaaYs
namespace Go.Proofs.Ytfnedohampmnoaa
open Go.RowKit
set_option maxRecDepth 100000
attribute [local go_sem] not_any

/- a list of the network's was made longer or shorter; the network's cell of it is not written yet; and then is -/
theorem Nw.rowAt {B t k : Nat} {x : Nat → Value} {N : Nat → List ByteArray} {w W2 W3 : World} (h : Nw B t x N w) (hk : k < 2) (hb : Below w.heap.size w W2) (hg : W2.grownBy W3 (x k).ownBlock) :
    W3.heap[t]? = some (.cells #[.bool true, x 0, x 1] 46 (0, 0)) ∧ W3.frozen? ⟨t, k + 1, none⟩ = false ∧ W3.cell? ⟨t, k + 1, none⟩ = some (x k) := by
  have hlt := lt_heap h.row
  have hr : W3.heap[t]? = some (.cells #[.bool true, x 0, x 1] 46 (0, 0)) :=
    (hg.block t (by have := hb.size; omega) (fun e => h.nt k hk e.symm)).trans ((hb.block t hlt).trans h.row)
  refine ⟨hr, frozen_of_row W3 t (k + 1) _ _ hr, ?_⟩
  rw [cell_of_row W3 t (k + 1) _ _ _ hr]
  rcases (show k = 0 ∨ k = 1 by omega) with rfl | rfl <;> rfl
theorem Nw.stored {B t k : Nat} {x : Nat → Value} {N : Nat → List ByteArray} {w W2 W3 : World} {v' : Value} {A : List ByteArray} (h : Nw B t x N w) (hk : k < 2) (hb : Below w.heap.size w W2) (hg : W2.grownBy W3 (x k).ownBlock)
    (ho : Lst B W3 v' A) (hf : ∀ g, v'.ownBlock = some g → (x k).ownBlock = some g ∨ W2.heap.size ≤ g) :
    Nw B t (upd x k v') (upd N k A) (W3.setCell ⟨t, k + 1, none⟩ v') ∧ Mv t x (upd x k v') w (W3.setCell ⟨t, k + 1, none⟩ v') := by
  have hlt := lt_heap h.row
  have hs2 := hb.size
  have hr := (h.rowAt hk hb hg).1
  have hso : ∀ g, g ≠ t → (W3.setCell ⟨t, k + 1, none⟩ v').heap[g]? = W3.heap[g]? := fun g hgt => heap_setCell_other _ _ _ _ hgt
  refine h.put hk ?_ (ho.same fun g hgv => hso g ?_) ?_ (hg.os.trans hb.os) (hg.tape.trans hb.tape) (hg.output.trans hb.output) (fun g hgl hgt hgx => ?_) (fun g hgv => ?_)
  · rw [heap_setCell_same _ t (k + 1) _ _ _ hr]
    rcases (show k = 0 ∨ k = 1 by omega) with rfl | rfl <;> rfl
  · rcases hf g hgv with h1 | h1
    · exact fun e => h.nt k hk (e ▸ h1)
    · omega
  · have := hg.size
    simp [World.setCell]
    omega
  · rw [hso g hgt, hg.block g (by omega) (fun e => hgx e.symm), hb.block g hgl]
  · rcases hf g hgv with h1 | h1
    · exact .inl h1
    · exact .inr (by omega)

/- what is wrong with a Send -/
def snd (N : Nat → List ByteArray) (q : Int) (s : ByteArray) : Int := if q < 0 ∨ 1 < q then 1 else if 131072 < s.size then 2 else if 64 ≤ (N q.toNat).length then 16 else 0
theorem snd_ok {N : Nat → List ByteArray} {q : Int} {s : ByteArray} (h : snd N q s = 0) : ∃ k : Nat, q = k ∧ k < 2 ∧ s.size ≤ 131072 ∧ (N k).length < 64 := by
  unfold snd at h
  split at h
  · cases h
  · split at h
    · cases h
    · split at h
      · cases h
      · rename_i h1 h2 h3
        exact ⟨q.toNat, by omega, by omega, by omega, by omega⟩

theorem send_fail {B t : Nat} {x : Nat → Value} {N : Nat → List ByteArray} {w : World} (h : Nw B t x N w) (q : Int) (s : ByteArray) (hc : snd N q s ≠ 0) :
    Calls Try.prog 12 #[.pointer (some ⟨t, 0, none⟩), .int .i64 q, .string s] w fun e w' => e = .returned (.int .i64 (snd N q s)) ∧ w' = w := by
  have kP := hide1 (party_any h q)
  obtain ⟨c0, c1, c2, _, _⟩ := nw_cells h
  unfold pty at kP
  unfold snd at *
  by_cases hb : q < 0 ∨ 1 < q
  · rw [if_pos hb] at *
    clear h c1 c2
    go_enter Try.func12, Try.ntmps12
    go_wp2_with (go_at_call 28; refine kP.out.mono ?_; rintro e w1 ⟨rfl, rfl⟩)
    go_ret
    exact ⟨rfl, rfl⟩
  · rw [if_neg hb] at *
    by_cases h2 : 131072 < s.size
    · rw [if_pos h2] at *
      clear h c1 c2
      have h2' : (131072 : Int) < (s.size : Int) := by omega
      go_enter Try.func12, Try.ntmps12
      go_wp2_with (go_at_call 28; refine kP.out.mono ?_; rintro e w1 ⟨rfl, rfl⟩)
      go_ret
      exact ⟨rfl, rfl⟩
    · rw [if_neg h2] at *
      have h2' : ¬ (131072 : Int) < (s.size : Int) := by omega
      obtain ⟨k, rfl⟩ : ∃ k : Nat, q = k := ⟨q.toNat, by omega⟩
      have hk : k < 2 := by omega
      obtain ⟨a, c, hx⟩ := (h.own k hk).form
      rw [Int.toNat_natCast] at *
      by_cases h3 : 64 ≤ (N k).length
      · rw [if_pos h3]
        generalize (N k).length = n at *
        have h3' : (64 : Int) ≤ (n : Int) := by omega
        rcases (show k = 0 ∨ k = 1 by omega) with rfl | rfl
        · rw [hx] at c1
          clear h hx c2
          change Hid (Calls _ _ #[_, .int .i64 0] _ _) at kP
          go_enter Try.func12, Try.ntmps12
          go_wp2_with (go_at_call 28; refine kP.out.mono ?_; rintro e w1 ⟨rfl, rfl⟩)
          go_ret
          exact ⟨rfl, rfl⟩
        · rw [hx] at c2
          clear h hx c1
          change Hid (Calls _ _ #[_, .int .i64 1] _ _) at kP
          go_enter Try.func12, Try.ntmps12
          go_wp2_with (go_at_call 28; refine kP.out.mono ?_; rintro e w1 ⟨rfl, rfl⟩)
          go_ret
          exact ⟨rfl, rfl⟩
      · rw [if_neg h3] at hc
        exact absurd rfl hc

set_option maxHeartbeats 1000000 in
theorem send_ok0 {B t : Nat} {x : Nat → Value} {N : Nat → List ByteArray} {w : World} (h : Nw B t x N w) (s : ByteArray) (hs : s.size ≤ 131072) (hN : (N 0).length < 64) :
    Calls Try.prog 12 #[.pointer (some ⟨t, 0, none⟩), .int .i64 0, .string s] w fun e w' => e = .returned (.int .i64 0) ∧ ∃ x', Nw B t x' (upd N 0 (N 0 ++ [s])) w' ∧ Mv t x x' w w' := by
  have kP := hide1 (party_any h 0)
  have e0 : pty 0 = 0 := by decide
  rw [e0] at kP
  obtain ⟨c0, c1, c2, z1, z2⟩ := nw_cells h
  have H := hide1 h
  have kC := fun w => hide1 (clone_any s w (by omega))
  obtain ⟨a, c, hx⟩ := (h.own 0 (by omega)).form
  have HX := hide1 hx
  have hlt : t < w.heap.size := lt_heap h.row
  have HLT := hide1 hlt
  have h2' : ¬ (131072 : Int) < (s.size : Int) := by omega
  have HN := hide1 hN
  have C1 := hide1 c1
  rw [hx] at c1 C1
  obtain ⟨n, hn⟩ : ∃ n, (N 0).length = n := ⟨_, rfl⟩
  rw [hn] at c1 C1 HX
  have h3' : ¬ (64 : Int) ≤ (n : Int) := by omega
  clear h hx hs hN hlt hn z1 z2 e0 c2
  go_enter Try.func12, Try.ntmps12
  go_upto_region 8 with (go_at_call 28; refine kP.out.mono ?_; rintro e w1 ⟨rfl, hw1⟩; obtain rfl := hw1.symm)
  clear kP c0 c1
  refine region_f (F := [11, 15]) (S := fun W => W.cell? ⟨t, 1, none⟩ = some (.slice a n c) ∧ t < W.heap.size) (by kernel_rfl) ⟨C1.out, HLT.out⟩ (fun hS => ?_)
  generalize hU : World.drew w = U at hS ⊢
  have bU : Hid (Below w.heap.size w U) := by rw [← hU]; exact (Below.refl _ _).drew
  clear hU
  refine take_p 0 28 (.pointer (some ⟨t, 0, none⟩)) rfl rfl (by kernel_rfl) (by kernel_rfl) (by kernel_rfl) (fun _ _ _ h => h) rfl (fun w => by go_simp) ?_
  try simp only [List.setIfInBounds_toArray, List.set_cons_zero, List.set_cons_succ]
  refine take_p 1 29 (.int .i64 0) rfl rfl (by kernel_rfl) (by kernel_rfl) (by kernel_rfl) (fun _ _ _ h => h) rfl (fun w => by go_simp) ?_
  try simp only [List.setIfInBounds_toArray, List.set_cons_zero, List.set_cons_succ]
  refine take_p 2 30 (.pointer (some ⟨t, 0, none⟩)) rfl rfl (by kernel_rfl) (by kernel_rfl) (by kernel_rfl) (fun _ _ _ h => h) rfl (fun w => by go_simp) ?_
  try simp only [List.setIfInBounds_toArray, List.set_cons_zero, List.set_cons_succ]
  refine take_p 3 31 (.int .i64 0) rfl rfl (by kernel_rfl) (by kernel_rfl) (by kernel_rfl) (fun _ _ _ h => h) rfl (fun w => by go_simp) ?_
  try simp only [List.setIfInBounds_toArray, List.set_cons_zero, List.set_cons_succ]
  refine take_p 4 32 (.pointer (some ⟨t, 0, none⟩)) rfl rfl (by kernel_rfl) (by kernel_rfl) (by kernel_rfl) (fun _ _ _ h => h) rfl (fun w => by go_simp) ?_
  try simp only [List.setIfInBounds_toArray, List.set_cons_zero, List.set_cons_succ]
  refine take_p 5 33 (.pointer (some ⟨t, 1, none⟩)) rfl rfl (by kernel_rfl) (by kernel_rfl) (by kernel_rfl) (fun _ _ _ h => h) rfl (fun w => by go_simp) ?_
  try simp only [List.setIfInBounds_toArray, List.set_cons_zero, List.set_cons_succ]
  refine take_p 6 34 (.pointer (some ⟨t, 1, none⟩)) rfl rfl (by kernel_rfl) (by kernel_rfl) (by kernel_rfl) (fun _ _ _ h => h) rfl (fun w => by go_simp) ?_
  try simp only [List.setIfInBounds_toArray, List.set_cons_zero, List.set_cons_succ]
  refine take_f 7 35 (.slice a n c) [11, 14, 15] rfl rfl (by kernel_rfl) (by kernel_rfl) (by kernel_rfl) (by kernel_rfl) (by kernel_rfl) (by kernel_rfl) (fun _ _ _ h => h) rfl (fun w hSw => by obtain ⟨g0, g1⟩ := hSw; go_simp) hS ?_
  try simp only [List.setIfInBounds_toArray, List.set_cons_zero, List.set_cons_succ]
  refine take_p 8 36 (.string s) rfl rfl (by kernel_rfl) (by kernel_rfl) (by kernel_rfl) (fun _ _ _ h => h) rfl (fun w => by go_simp) ?_
  try simp only [List.setIfInBounds_toArray, List.set_cons_zero, List.set_cons_succ]
  refine take_p 12 40 (.pointer (some ⟨t, 0, none⟩)) rfl rfl (by kernel_rfl) (by kernel_rfl) (by kernel_rfl) (fun _ _ _ h => h) rfl (fun w => by go_simp) ?_
  try simp only [List.setIfInBounds_toArray, List.set_cons_zero, List.set_cons_succ]
  refine take_p 13 41 (.pointer (some ⟨t, 1, none⟩)) rfl rfl (by kernel_rfl) (by kernel_rfl) (by kernel_rfl) (fun _ _ _ h => h) rfl (fun w => by go_simp) ?_
  try simp only [List.setIfInBounds_toArray, List.set_cons_zero, List.set_cons_succ]
  refine ready_f 9 (o := { dst := some 37, op := Op.call { callee := Callee.value (Operand.func 30), args := #[Operand.tmp 36], argTypes := #[9] }, type := 9, pos := "net.go:36", after := #[{ on := 8, ground := Ground.data }], guard := none }) (by kernel_rfl) rfl (fun K hK => ?_)
  go_simp
  refine (kC _).out.mono ?_
  rintro e W1 ⟨rfl, hb1⟩
  refine hK.out _ _ (fun _ h => ⟨(hb1.cell (p := ⟨t, _, none⟩) h.2).trans h.1, Nat.lt_of_lt_of_le h.2 hb1.size⟩) ?_
  clear hK K
  try simp only [Act.put, List.setIfInBounds_toArray, List.set_cons_zero, List.set_cons_succ]
  have b1 : Hid (Below w.heap.size w W1) := bU.out.trans (hb1.mono bU.out.size)
  clear hb1 bU hS
  refine ready_f 10 (o := { dst := some 38, op := Op.buildSlice 25 1 #[(0, Operand.tmp 37)], type := 25, pos := "net.go:36", after := #[{ on := 9, ground := Ground.data }], guard := none }) (by kernel_rfl) rfl (fun K hK => ?_)
  go_simp
  refine hK.out _ _ (fun _ h => ⟨((below1 _).cell (p := ⟨t, _, none⟩) h.2).trans h.1, Nat.lt_of_lt_of_le h.2 (below1 _).size⟩) ?_
  clear hK K
  try simp only [Act.put, List.setIfInBounds_toArray, List.set_cons_zero, List.set_cons_succ]
  generalize hU : World.alloc W1 _ = W2
  have b2 : Hid (Below w.heap.size w W2) := by rw [← hU]; exact b1.out.alloc b1.out.size _
  have rd : Hid (Rdl W2 (.slice (some ⟨W1.heap.size, 0, none⟩) 1 1) [s]) := by rw [← hU]; exact Rdl.one _ _
  clear hU b1
  refine ready_f 11 (o := { dst := some 39, op := Op.call { callee := Callee.builtin Builtin.append, args := #[Operand.tmp 35, Operand.tmp 38], argTypes := #[25, 25] }, type := 25, pos := "net.go:36", after := #[{ on := 7, ground := Ground.data }, { on := 10, ground := Ground.data }, { on := 9, ground := Ground.chain }], guard := none }) (by kernel_rfl) rfl (fun K hK => ?_)
  rw [if_pos (by rfl)]
  refine wp_append_lst _ _ rfl rfl rfl (HX.out ▸ (H.out.below b2.out (Nat.le_refl _)).own 0 (by omega)) rd.out (by have := HN.out; simp; omega) (by have := H.out.low; have := HLT.out; have := b2.out.size; omega) ?_
  intro v' W3 ho hg hf
  refine hK.out _ _ (fun h => absurd (by decide) h) ?_
  clear hK K
  try simp only [Act.put, List.setIfInBounds_toArray, List.set_cons_zero, List.set_cons_succ]
  rw [← HX.out] at hg hf
  obtain ⟨a', c', rfl⟩ := ho.form
  have fz := (H.out.rowAt (k := 0) (by omega) b2.out hg).2.1
  have fc := (H.out.rowAt (k := 0) (by omega) b2.out hg).2.2
  have FIN := hide1 (H.out.stored (by omega) b2.out hg ho hf)
  clear hg hf ho
  refine take_p 14 42 (.pointer (some ⟨t, 1, none⟩)) rfl rfl (by kernel_rfl) (by kernel_rfl) (by kernel_rfl) (fun _ _ _ h => h) rfl (fun w => by go_simp) ?_
  try simp only [List.setIfInBounds_toArray, List.set_cons_zero, List.set_cons_succ]
  refine ready_f 15 (o := { dst := none, op := Op.store 25 (Operand.tmp 42) (Operand.tmp 39), type := 0, pos := "net.go:36", after := #[{ on := 14, ground := Ground.data }, { on := 11, ground := Ground.data }, { on := 11, ground := Ground.chain }, { on := 0, ground := Ground.phase }, { on := 1, ground := Ground.phase }, { on := 2, ground := Ground.phase }, { on := 3, ground := Ground.phase }, { on := 4, ground := Ground.phase }, { on := 5, ground := Ground.phase }, { on := 6, ground := Ground.phase }, { on := 7, ground := Ground.phase }, { on := 8, ground := Ground.phase }, { on := 9, ground := Ground.phase }, { on := 10, ground := Ground.phase }, { on := 11, ground := Ground.phase }], guard := none }) (by kernel_rfl) rfl (fun K hK => ?_)
  go_simp
  refine hK.out _ _ (fun h => absurd (by decide) h) ?_
  clear hK K
  refine done_f (by kernel_rfl) ?_ _
  go_wp2
  go_ret
  have hF := FIN.out
  rw [List.length_append] at hF
  exact ⟨rfl, _, hF⟩

set_option maxHeartbeats 1000000 in
theorem send_ok1 {B t : Nat} {x : Nat → Value} {N : Nat → List ByteArray} {w : World} (h : Nw B t x N w) (s : ByteArray) (hs : s.size ≤ 131072) (hN : (N 1).length < 64) :
    Calls Try.prog 12 #[.pointer (some ⟨t, 0, none⟩), .int .i64 1, .string s] w fun e w' => e = .returned (.int .i64 0) ∧ ∃ x', Nw B t x' (upd N 1 (N 1 ++ [s])) w' ∧ Mv t x x' w w' := by
  have kP := hide1 (party_any h 1)
  have e0 : pty 1 = 0 := by decide
  rw [e0] at kP
  obtain ⟨c0, c1, c2, z1, z2⟩ := nw_cells h
  have H := hide1 h
  have kC := fun w => hide1 (clone_any s w (by omega))
  obtain ⟨a, c, hx⟩ := (h.own 1 (by omega)).form
  have HX := hide1 hx
  have hlt : t < w.heap.size := lt_heap h.row
  have HLT := hide1 hlt
  have h2' : ¬ (131072 : Int) < (s.size : Int) := by omega
  have HN := hide1 hN
  have C2 := hide1 c2
  rw [hx] at c2 C2
  obtain ⟨n, hn⟩ : ∃ n, (N 1).length = n := ⟨_, rfl⟩
  rw [hn] at c2 C2 HX
  have h3' : ¬ (64 : Int) ≤ (n : Int) := by omega
  clear h hx hs hN hlt hn z1 z2 e0 c1
  go_enter Try.func12, Try.ntmps12
  go_upto_region 8 with (go_at_call 28; refine kP.out.mono ?_; rintro e w1 ⟨rfl, hw1⟩; obtain rfl := hw1.symm)
  clear kP c0 c2
  refine region_f (F := [11, 15]) (S := fun W => W.cell? ⟨t, 2, none⟩ = some (.slice a n c) ∧ t < W.heap.size) (by kernel_rfl) ⟨C2.out, HLT.out⟩ (fun hS => ?_)
  generalize hU : World.drew w = U at hS ⊢
  have bU : Hid (Below w.heap.size w U) := by rw [← hU]; exact (Below.refl _ _).drew
  clear hU
  refine take_p 0 28 (.pointer (some ⟨t, 0, none⟩)) rfl rfl (by kernel_rfl) (by kernel_rfl) (by kernel_rfl) (fun _ _ _ h => h) rfl (fun w => by go_simp) ?_
  try simp only [List.setIfInBounds_toArray, List.set_cons_zero, List.set_cons_succ]
  refine take_p 1 29 (.int .i64 1) rfl rfl (by kernel_rfl) (by kernel_rfl) (by kernel_rfl) (fun _ _ _ h => h) rfl (fun w => by go_simp) ?_
  try simp only [List.setIfInBounds_toArray, List.set_cons_zero, List.set_cons_succ]
  refine take_p 2 30 (.pointer (some ⟨t, 0, none⟩)) rfl rfl (by kernel_rfl) (by kernel_rfl) (by kernel_rfl) (fun _ _ _ h => h) rfl (fun w => by go_simp) ?_
  try simp only [List.setIfInBounds_toArray, List.set_cons_zero, List.set_cons_succ]
  refine take_p 3 31 (.int .i64 1) rfl rfl (by kernel_rfl) (by kernel_rfl) (by kernel_rfl) (fun _ _ _ h => h) rfl (fun w => by go_simp) ?_
  try simp only [List.setIfInBounds_toArray, List.set_cons_zero, List.set_cons_succ]
  refine take_p 4 32 (.pointer (some ⟨t, 0, none⟩)) rfl rfl (by kernel_rfl) (by kernel_rfl) (by kernel_rfl) (fun _ _ _ h => h) rfl (fun w => by go_simp) ?_
  try simp only [List.setIfInBounds_toArray, List.set_cons_zero, List.set_cons_succ]
  refine take_p 5 33 (.pointer (some ⟨t, 1, none⟩)) rfl rfl (by kernel_rfl) (by kernel_rfl) (by kernel_rfl) (fun _ _ _ h => h) rfl (fun w => by go_simp) ?_
  try simp only [List.setIfInBounds_toArray, List.set_cons_zero, List.set_cons_succ]
  refine take_p 6 34 (.pointer (some ⟨t, 2, none⟩)) rfl rfl (by kernel_rfl) (by kernel_rfl) (by kernel_rfl) (fun _ _ _ h => h) rfl (fun w => by go_simp) ?_
  try simp only [List.setIfInBounds_toArray, List.set_cons_zero, List.set_cons_succ]
  refine take_f 7 35 (.slice a n c) [11, 14, 15] rfl rfl (by kernel_rfl) (by kernel_rfl) (by kernel_rfl) (by kernel_rfl) (by kernel_rfl) (by kernel_rfl) (fun _ _ _ h => h) rfl (fun w hSw => by obtain ⟨g0, g1⟩ := hSw; go_simp) hS ?_
  try simp only [List.setIfInBounds_toArray, List.set_cons_zero, List.set_cons_succ]
  refine take_p 8 36 (.string s) rfl rfl (by kernel_rfl) (by kernel_rfl) (by kernel_rfl) (fun _ _ _ h => h) rfl (fun w => by go_simp) ?_
  try simp only [List.setIfInBounds_toArray, List.set_cons_zero, List.set_cons_succ]
  refine take_p 12 40 (.pointer (some ⟨t, 0, none⟩)) rfl rfl (by kernel_rfl) (by kernel_rfl) (by kernel_rfl) (fun _ _ _ h => h) rfl (fun w => by go_simp) ?_
  try simp only [List.setIfInBounds_toArray, List.set_cons_zero, List.set_cons_succ]
  refine take_p 13 41 (.pointer (some ⟨t, 1, none⟩)) rfl rfl (by kernel_rfl) (by kernel_rfl) (by kernel_rfl) (fun _ _ _ h => h) rfl (fun w => by go_simp) ?_
  try simp only [List.setIfInBounds_toArray, List.set_cons_zero, List.set_cons_succ]
  refine ready_f 9 (o := { dst := some 37, op := Op.call { callee := Callee.value (Operand.func 30), args := #[Operand.tmp 36], argTypes := #[9] }, type := 9, pos := "net.go:36", after := #[{ on := 8, ground := Ground.data }], guard := none }) (by kernel_rfl) rfl (fun K hK => ?_)
  go_simp
  refine (kC _).out.mono ?_
  rintro e W1 ⟨rfl, hb1⟩
  refine hK.out _ _ (fun _ h => ⟨(hb1.cell (p := ⟨t, _, none⟩) h.2).trans h.1, Nat.lt_of_lt_of_le h.2 hb1.size⟩) ?_
  clear hK K
  try simp only [Act.put, List.setIfInBounds_toArray, List.set_cons_zero, List.set_cons_succ]
  have b1 : Hid (Below w.heap.size w W1) := bU.out.trans (hb1.mono bU.out.size)
  clear hb1 bU hS
  refine ready_f 10 (o := { dst := some 38, op := Op.buildSlice 25 1 #[(0, Operand.tmp 37)], type := 25, pos := "net.go:36", after := #[{ on := 9, ground := Ground.data }], guard := none }) (by kernel_rfl) rfl (fun K hK => ?_)
  go_simp
  refine hK.out _ _ (fun _ h => ⟨((below1 _).cell (p := ⟨t, _, none⟩) h.2).trans h.1, Nat.lt_of_lt_of_le h.2 (below1 _).size⟩) ?_
  clear hK K
  try simp only [Act.put, List.setIfInBounds_toArray, List.set_cons_zero, List.set_cons_succ]
  generalize hU : World.alloc W1 _ = W2
  have b2 : Hid (Below w.heap.size w W2) := by rw [← hU]; exact b1.out.alloc b1.out.size _
  have rd : Hid (Rdl W2 (.slice (some ⟨W1.heap.size, 0, none⟩) 1 1) [s]) := by rw [← hU]; exact Rdl.one _ _
  clear hU b1
  refine ready_f 11 (o := { dst := some 39, op := Op.call { callee := Callee.builtin Builtin.append, args := #[Operand.tmp 35, Operand.tmp 38], argTypes := #[25, 25] }, type := 25, pos := "net.go:36", after := #[{ on := 7, ground := Ground.data }, { on := 10, ground := Ground.data }, { on := 9, ground := Ground.chain }], guard := none }) (by kernel_rfl) rfl (fun K hK => ?_)
  rw [if_pos (by rfl)]
  refine wp_append_lst _ _ rfl rfl rfl (HX.out ▸ (H.out.below b2.out (Nat.le_refl _)).own 1 (by omega)) rd.out (by have := HN.out; simp; omega) (by have := H.out.low; have := HLT.out; have := b2.out.size; omega) ?_
  intro v' W3 ho hg hf
  refine hK.out _ _ (fun h => absurd (by decide) h) ?_
  clear hK K
  try simp only [Act.put, List.setIfInBounds_toArray, List.set_cons_zero, List.set_cons_succ]
  rw [← HX.out] at hg hf
  obtain ⟨a', c', rfl⟩ := ho.form
  have fz := (H.out.rowAt (k := 1) (by omega) b2.out hg).2.1
  have fc := (H.out.rowAt (k := 1) (by omega) b2.out hg).2.2
  have FIN := hide1 (H.out.stored (by omega) b2.out hg ho hf)
  clear hg hf ho
  refine take_p 14 42 (.pointer (some ⟨t, 2, none⟩)) rfl rfl (by kernel_rfl) (by kernel_rfl) (by kernel_rfl) (fun _ _ _ h => h) rfl (fun w => by go_simp) ?_
  try simp only [List.setIfInBounds_toArray, List.set_cons_zero, List.set_cons_succ]
  refine ready_f 15 (o := { dst := none, op := Op.store 25 (Operand.tmp 42) (Operand.tmp 39), type := 0, pos := "net.go:36", after := #[{ on := 14, ground := Ground.data }, { on := 11, ground := Ground.data }, { on := 11, ground := Ground.chain }, { on := 0, ground := Ground.phase }, { on := 1, ground := Ground.phase }, { on := 2, ground := Ground.phase }, { on := 3, ground := Ground.phase }, { on := 4, ground := Ground.phase }, { on := 5, ground := Ground.phase }, { on := 6, ground := Ground.phase }, { on := 7, ground := Ground.phase }, { on := 8, ground := Ground.phase }, { on := 9, ground := Ground.phase }, { on := 10, ground := Ground.phase }, { on := 11, ground := Ground.phase }], guard := none }) (by kernel_rfl) rfl (fun K hK => ?_)
  go_simp
  refine hK.out _ _ (fun h => absurd (by decide) h) ?_
  clear hK K
  refine done_f (by kernel_rfl) ?_ _
  go_wp2
  go_ret
  have hF := FIN.out
  rw [List.length_append] at hF
  exact ⟨rfl, _, hF⟩

end Go.Proofs.Ytfnedohampmnoaa
