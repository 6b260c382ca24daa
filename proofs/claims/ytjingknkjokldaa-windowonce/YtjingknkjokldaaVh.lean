/- Held: all that are held, by rising numbers. -/
import Derived.Test.YtjingknkjokldaaVk
namespace Go.Proofs.Ytjingknkjokldaa
open Go.RowKit
set_option maxRecDepth 100000
attribute [local go_sem] not_any

theorem Nls.len {T B : Nat} {w : World} {v : Value} {l : List (Nat × ByteArray)} (h : Nls T B w v l) : lenOf v = l.length := by
  obtain ⟨a, c, rfl⟩ := h.form
  rfl
theorem Rnl.one1 (w : World) (T : TypeId) (k : Nat) (s : ByteArray) (g : Nat) (hg : w.heap.size = g) : Rnl (w.alloc (.cells #[.int .u32 (k : Int), .string s] T)) (.slice (some ⟨g, 0, none⟩) 1 1) [(k, s)] := hg ▸ Rnl.one w T k s
/- bodies that can be -/
def Sz (l : List (Nat × ByteArray)) : Prop := ∀ p ∈ l, p.2.size ≤ 281474976710656
theorem lk_app : ∀ {p r : List (Nat × ByteArray)} {k : Nat}, (∀ x ∈ p, x.1 ≠ k) → lk (p ++ r) k = lk r k
  | [], _, _, _ => rfl
  | x :: p, r, k, h => by
    rw [List.cons_append, lk, if_neg (fun e => h x (by simp) e.symm)]
    exact lk_app fun y hy => h y (by simp [hy])

set_option maxHeartbeats 2000000 in
theorem held_any {s a n : Nat} {m : Value} {l : List (Nat × ByteArray)} {w : World} (h : Inm s m a n (lk l) w) (hd : Hd a l) (hz : Sz l) (ha : a + 100 < 4294967296) :
    Calls Try.prog 24 #[.pointer (some ⟨s, 0, none⟩)] w fun e w' => ∃ v, e = .returned v ∧ Nls 65 w.heap.size w' v l ∧ Below w.heap.size w w' := by
  have H := hide1 h
  have HD := hide1 hd
  have HZ := hide1 hz
  obtain ⟨mb, rfl⟩ := h.mp.form
  obtain ⟨m, hm⟩ : ∃ m, Value.map mb = m := ⟨_, rfl⟩
  have HMM := hide1 hm
  rw [hm] at H
  clear h hd hz hm
  go_enter Try.func24, Try.ntmps24
  go_wp2_with fail
  go_loopw [3, 9] (fun v c wr => ∃ (i : Nat) (p r : List (Nat × ByteArray)) (u : Value), i ≤ 16 ∧ c = .int .u32 (i : Int) ∧ v = u ∧ Nls 65 w.heap.size wr u p ∧ Below w.heap.size w wr ∧ l = p ++ r ∧ Upto (a + 1 + i) p ∧ Low (a + 1 + i) r) (fun _ c _ => 16 - (intOf c).toNat)
  case atStart => exact ⟨0, [], l, _, by omega, rfl, rfl, Nls.nil _ _ _, Below.refl _ _, rfl, by simp [Upto], HD.out.low1⟩
  case round =>
    obtain ⟨i, p, r, v, hi, rfl, hv, hL, hB, hl, hp, hr⟩ := hrel
    obtain rfl := hv.symm
    have HL := hide1 hL
    have HB := hide1 hB
    have HE := hide1 (And.intro hl (And.intro hp hr))
    clear hL hB hl hp hr hv
    by_cases hi6 : i < 16
    · have gin : (i : Int) < 16 := by omega
      have HI := hide1 (H.out.below HB.out (Nat.le_refl _))
      obtain ⟨k0, hk0⟩ : ∃ k, a + 1 + i = k := ⟨_, rfl⟩
      have HKK := hide1 hk0
      have KA : Hid (∀ W, Inm s m a n (lk l) W → Calls Try.prog 23 #[.pointer (some ⟨s, 0, none⟩)] W fun e w' => e = .returned (.int .u32 ((a + 1 : Nat) : Int)) ∧ w' = W) := fun W hW => awaited_any hW (by omega)
      have LK : Hid (∀ W, Inm s m a n (lk l) W → (Instr.lookup 49 m (.int .u32 (k0 : Int)) true).run Try.prog W = .ok (.tuple #[got k0 (lk l k0), .bool (lk l k0).isSome]) W) := fun W hW => hW.mp.look (by omega)
      have hlr : lk l k0 = lk r k0 := by
        obtain ⟨e1, e2, e3⟩ := HE.out
        rw [e1]
        exact lk_app fun x hx => by have := e2 x hx; omega
      have ht : (lk l k0 = none ∧ ∀ x ∈ r, x.1 ≠ k0) ∨ ∃ t r', r = (k0, t) :: r' ∧ lk l k0 = some t := by
        rw [hlr]
        cases hr : lk r k0 with
        | none => exact .inl ⟨rfl, lk_none hr⟩
        | some t =>
          obtain ⟨e1, e2, e3⟩ := HE.out
          have hs : Srt r := by
            have := HD.out.srt
            rw [e1] at this
            exact (List.pairwise_append.1 this).2.1
          rw [hk0] at e3
          cases r with
          | nil => cases hr
          | cons y r' =>
            have h1 := lk_first hs e3
            rw [hr] at h1
            by_cases e : y.1 = k0
            · rw [if_pos e] at h1
              cases h1
              exact .inr ⟨y.2, r', by rw [← e], rfl⟩
            · rw [if_neg e] at h1
              cases h1
      clear hlr hk0
      rcases ht with ⟨ht, hne⟩ | ⟨t, r', hr, ht⟩
      · have HLK : Hid (∀ W, Inm s m a n (lk l) W → (Instr.lookup 49 m (.int .u32 (k0 : Int)) true).run Try.prog W = .ok (.tuple #[.agg #[.int .u32 0, .string ⟨#[]⟩], .bool false]) W) := fun W hW => by
          have := LK.out W hW
          rw [ht] at this
          exact this
        have HNE := hide1 hne
        clear LK ht hne
        go_upto_region 7 with (fail)
        refine region_f (F := [13]) (S := fun W => Inm s m a n (lk l) W) (by kernel_rfl) (HI.out.below (Below.refl _ _).drew (Nat.le_refl _)) (fun hS => ?_)
        generalize hU : World.drew wr = U at hS ⊢
        have bU : Hid (Below wr.heap.size wr U) := by rw [← hU]; exact (Below.refl _ _).drew
        clear hU
        refine take_p 0 13 (.pointer (some ⟨s, 0, none⟩)) rfl rfl (by kernel_rfl) (by kernel_rfl) (by kernel_rfl) (fun _ _ _ h => h) rfl (fun w => by go_simp) ?_
        try simp only [List.setIfInBounds_toArray, List.set_cons_zero, List.set_cons_succ]
        refine take_p 1 14 (.pointer (some ⟨s, 0, none⟩)) rfl rfl (by kernel_rfl) (by kernel_rfl) (by kernel_rfl) (fun _ _ _ h => h) rfl (fun w => by go_simp) ?_
        try simp only [List.setIfInBounds_toArray, List.set_cons_zero, List.set_cons_succ]
        refine take_p 2 15 (.pointer (some ⟨s, 1, none⟩)) rfl rfl (by kernel_rfl) (by kernel_rfl) (by kernel_rfl) (fun _ _ _ h => h) rfl (fun w => by go_simp) ?_
        try simp only [List.setIfInBounds_toArray, List.set_cons_zero, List.set_cons_succ]
        refine take_f 3 16 (m) [8, 9, 10, 11, 13, 14] rfl rfl (by kernel_rfl) (by kernel_rfl) (by kernel_rfl) (by kernel_rfl) (by kernel_rfl) (by kernel_rfl) (fun _ _ _ h => h) rfl (fun w hSw => by obtain ⟨_, c1, _, _, _⟩ := box2 hSw.row; go_simp) hS ?_
        try simp only [List.setIfInBounds_toArray, List.set_cons_zero, List.set_cons_succ]
        refine take_p 4 17 (.pointer (some ⟨s, 0, none⟩)) rfl rfl (by kernel_rfl) (by kernel_rfl) (by kernel_rfl) (fun _ _ _ h => h) rfl (fun w => by go_simp) ?_
        try simp only [List.setIfInBounds_toArray, List.set_cons_zero, List.set_cons_succ]
        refine take_p 6 19 (.int .u32 (i : Int)) rfl rfl (by kernel_rfl) (by kernel_rfl) (by kernel_rfl) (fun _ _ _ h => h) rfl (fun w => by go_simp) ?_
        try simp only [List.setIfInBounds_toArray, List.set_cons_zero, List.set_cons_succ]
        refine ready2_f 5 12 (o := { dst := some 18, op := Op.call { callee := Callee.value (Operand.func 23), args := #[Operand.tmp 17], argTypes := #[67] }, type := 22, pos := "window.go:120", after := #[{ on := 4, ground := Ground.data }], guard := none }) (o' := { dst := some 5, op := Op.alloc 65, type := 0, pos := "window.go:120", after := #[], guard := none }) (by kernel_rfl) rfl rfl (fun K hK => ?oafalse) (fun K hK => ?obfalse)
        case' oafalse =>
          go_simp
          refine (KA.out _ hS).mono ?_
          rintro e W1 ⟨rfl, hw1⟩
          obtain rfl := hw1.symm
          refine hK.out _ _ (fun _ h => h) ?_
          clear hK K
          try simp only [Act.put, List.setIfInBounds_toArray, List.set_cons_zero, List.set_cons_succ]
          refine take_p 7 20 (.int .u32 ((k0 : Nat) : Int)) rfl rfl (by kernel_rfl) (by kernel_rfl) (by kernel_rfl) (fun _ _ _ h => h) rfl (fun w => by go_simp; have e9 := HKK.out; simp only [IntKind.wrap_u32]; go_num) ?_
          try simp only [List.setIfInBounds_toArray, List.set_cons_zero, List.set_cons_succ]
          refine take_f 8 21 (.tuple #[.agg #[.int .u32 0, .string ⟨#[]⟩], .bool false]) [9, 10, 11, 13, 14] rfl rfl (by kernel_rfl) (by kernel_rfl) (by kernel_rfl) (by kernel_rfl) (by kernel_rfl) (by kernel_rfl) (fun _ _ _ h => h) rfl (fun w hSw => by have hl := HLK.out w hSw; go_simp) hS ?_
          try simp only [List.setIfInBounds_toArray, List.set_cons_zero, List.set_cons_succ]
          refine take_p 9 12 (.tuple #[.agg #[.int .u32 0, .string ⟨#[]⟩], .bool false]) rfl rfl (by kernel_rfl) (by kernel_rfl) (by kernel_rfl) (fun _ _ _ h => h) rfl (fun w => by go_simp) ?_
          try simp only [List.setIfInBounds_toArray, List.set_cons_zero, List.set_cons_succ]
          refine take_p 10 22 (.agg #[.int .u32 0, .string ⟨#[]⟩]) rfl rfl (by kernel_rfl) (by kernel_rfl) (by kernel_rfl) (fun _ _ _ h => h) rfl (fun w => by go_simp) ?_
          try simp only [List.setIfInBounds_toArray, List.set_cons_zero, List.set_cons_succ]
          refine take_p 11 23 (.bool false) rfl rfl (by kernel_rfl) (by kernel_rfl) (by kernel_rfl) (fun _ _ _ h => h) rfl (fun w => by go_simp) ?_
          try simp only [List.setIfInBounds_toArray, List.set_cons_zero, List.set_cons_succ]
          refine ready_f 12 (o := { dst := some 5, op := Op.alloc 65, type := 0, pos := "window.go:120", after := #[], guard := none }) (by kernel_rfl) rfl (fun K hK => ?_)
          go_simp
          refine hK.out _ _ (fun _ h => h.below (below1 _) (Nat.le_refl _)) ?_
          clear hK K
          try simp only [Act.put, List.setIfInBounds_toArray, List.set_cons_zero, List.set_cons_succ]
          generalize hU9 : World.alloc U _ = W9
          have b9 : Hid (Below wr.heap.size wr W9) := by rw [← hU9]; exact bU.out.alloc bU.out.size _
          have r9 : W9.heap[U.heap.size]? = some (.cells #[.int .u32 0, .string ⟨#[]⟩] 65 (0, 0)) := by rw [← hU9]; exact heap_alloc_new _ _
          have g9 : Hid (wr.heap.size ≤ U.heap.size) := bU.out.size
          generalize U.heap.size = g at r9 g9 ⊢
          obtain ⟨_, _, f0, _, _⟩ := box2 r9
          obtain ⟨f1, _⟩ := free2 (x' := .int .u32 0) r9
          have R9 := hide1 r9
          clear hU9 r9 bU hS
          refine ready_f 13 (o := { dst := none, op := Op.store 65 (Operand.tmp 5) (Operand.tmp 22), type := 0, pos := "window.go:120", after := #[{ on := 12, ground := Ground.data }, { on := 10, ground := Ground.data }, { on := 5, ground := Ground.chain }, { on := 0, ground := Ground.phase }, { on := 1, ground := Ground.phase }, { on := 2, ground := Ground.phase }, { on := 3, ground := Ground.phase }, { on := 4, ground := Ground.phase }, { on := 5, ground := Ground.phase }, { on := 6, ground := Ground.phase }, { on := 7, ground := Ground.phase }, { on := 8, ground := Ground.phase }, { on := 9, ground := Ground.phase }, { on := 10, ground := Ground.phase }, { on := 11, ground := Ground.textOnly Departure.lateStores }, { on := 12, ground := Ground.phase }], guard := none }) (by kernel_rfl) rfl (fun K hK => ?_)
          go_simp
          refine hK.out _ _ (fun h => absurd (by decide) h) ?_
          clear hK K
          refine take_p 14 6 (.bool false) rfl rfl (by kernel_rfl) (by kernel_rfl) (by kernel_rfl) (fun _ _ _ h => h) rfl (fun w => by go_simp) ?_
          try simp only [List.setIfInBounds_toArray, List.set_cons_zero, List.set_cons_succ]
          refine done_f (by kernel_rfl) ?_ _
        case' obfalse =>
          go_simp
          refine hK.out _ _ (fun _ h => h.below (below1 _) (Nat.le_refl _)) ?_
          clear hK K
          try simp only [Act.put, List.setIfInBounds_toArray, List.set_cons_zero, List.set_cons_succ]
          replace hS := hS.below (below1 (.cells #[.int .u32 0, .string ⟨#[]⟩] 65)) (Nat.le_refl _)
          refine ready_f 5 (o := { dst := some 18, op := Op.call { callee := Callee.value (Operand.func 23), args := #[Operand.tmp 17], argTypes := #[67] }, type := 22, pos := "window.go:120", after := #[{ on := 4, ground := Ground.data }], guard := none }) (by kernel_rfl) rfl (fun K hK => ?_)
          go_simp
          refine (KA.out _ hS).mono ?_
          rintro e W1 ⟨rfl, hw1⟩
          obtain rfl := hw1.symm
          refine hK.out _ _ (fun _ h => h) ?_
          clear hK K
          try simp only [Act.put, List.setIfInBounds_toArray, List.set_cons_zero, List.set_cons_succ]
          refine take_p 7 20 (.int .u32 ((k0 : Nat) : Int)) rfl rfl (by kernel_rfl) (by kernel_rfl) (by kernel_rfl) (fun _ _ _ h => h) rfl (fun w => by go_simp; have e9 := HKK.out; simp only [IntKind.wrap_u32]; go_num) ?_
          try simp only [List.setIfInBounds_toArray, List.set_cons_zero, List.set_cons_succ]
          refine take_f 8 21 (.tuple #[.agg #[.int .u32 0, .string ⟨#[]⟩], .bool false]) [9, 10, 11, 13, 14] rfl rfl (by kernel_rfl) (by kernel_rfl) (by kernel_rfl) (by kernel_rfl) (by kernel_rfl) (by kernel_rfl) (fun _ _ _ h => h) rfl (fun w hSw => by have hl := HLK.out w hSw; go_simp) hS ?_
          try simp only [List.setIfInBounds_toArray, List.set_cons_zero, List.set_cons_succ]
          refine take_p 9 12 (.tuple #[.agg #[.int .u32 0, .string ⟨#[]⟩], .bool false]) rfl rfl (by kernel_rfl) (by kernel_rfl) (by kernel_rfl) (fun _ _ _ h => h) rfl (fun w => by go_simp) ?_
          try simp only [List.setIfInBounds_toArray, List.set_cons_zero, List.set_cons_succ]
          refine take_p 10 22 (.agg #[.int .u32 0, .string ⟨#[]⟩]) rfl rfl (by kernel_rfl) (by kernel_rfl) (by kernel_rfl) (fun _ _ _ h => h) rfl (fun w => by go_simp) ?_
          try simp only [List.setIfInBounds_toArray, List.set_cons_zero, List.set_cons_succ]
          refine take_p 11 23 (.bool false) rfl rfl (by kernel_rfl) (by kernel_rfl) (by kernel_rfl) (fun _ _ _ h => h) rfl (fun w => by go_simp) ?_
          try simp only [List.setIfInBounds_toArray, List.set_cons_zero, List.set_cons_succ]
          generalize hU9 : World.alloc U _ = W9
          have b9 : Hid (Below wr.heap.size wr W9) := by rw [← hU9]; exact bU.out.alloc bU.out.size _
          have r9 : W9.heap[U.heap.size]? = some (.cells #[.int .u32 0, .string ⟨#[]⟩] 65 (0, 0)) := by rw [← hU9]; exact heap_alloc_new _ _
          have g9 : Hid (wr.heap.size ≤ U.heap.size) := bU.out.size
          generalize U.heap.size = g at r9 g9 ⊢
          obtain ⟨_, _, f0, _, _⟩ := box2 r9
          obtain ⟨f1, _⟩ := free2 (x' := .int .u32 0) r9
          have R9 := hide1 r9
          clear hU9 r9 bU hS
          refine ready_f 13 (o := { dst := none, op := Op.store 65 (Operand.tmp 5) (Operand.tmp 22), type := 0, pos := "window.go:120", after := #[{ on := 12, ground := Ground.data }, { on := 10, ground := Ground.data }, { on := 5, ground := Ground.chain }, { on := 0, ground := Ground.phase }, { on := 1, ground := Ground.phase }, { on := 2, ground := Ground.phase }, { on := 3, ground := Ground.phase }, { on := 4, ground := Ground.phase }, { on := 5, ground := Ground.phase }, { on := 6, ground := Ground.phase }, { on := 7, ground := Ground.phase }, { on := 8, ground := Ground.phase }, { on := 9, ground := Ground.phase }, { on := 10, ground := Ground.phase }, { on := 11, ground := Ground.textOnly Departure.lateStores }, { on := 12, ground := Ground.phase }], guard := none }) (by kernel_rfl) rfl (fun K hK => ?_)
          go_simp
          refine hK.out _ _ (fun h => absurd (by decide) h) ?_
          clear hK K
          refine take_p 14 6 (.bool false) rfl rfl (by kernel_rfl) (by kernel_rfl) (by kernel_rfl) (fun _ _ _ h => h) rfl (fun w => by go_simp) ?_
          try simp only [List.setIfInBounds_toArray, List.set_cons_zero, List.set_cons_succ]
          refine done_f (by kernel_rfl) ?_ _
        all_goals
          have bF : Hid (Below wr.heap.size wr ((W9.setCell ⟨g, 0, none⟩ (.int .u32 0)).setCell ⟨g, 1, none⟩ (.string ⟨#[]⟩))) := below_set2 b9.out g9.out
          go_wp2
          go_roundw
          case rel =>
              obtain ⟨e1, e2, e3⟩ := HE.out
              have e4 := HKK.out
              exact ⟨i + 1, p, r, _, by omega, by go_num, rfl, HL.out.below bF.out (Nat.le_refl _), HB.out.trans (bF.out.mono HB.out.size), e1, fun x hx => by have := e2 x hx; omega, fun x hx => by have h1 := e3 x hx; have h2 := HNE.out x hx; omega⟩
          case measure => simp [intOf]; omega
      · have HLK : Hid (∀ W, Inm s m a n (lk l) W → (Instr.lookup 49 m (.int .u32 (k0 : Int)) true).run Try.prog W = .ok (.tuple #[.agg #[.int .u32 (k0 : Int), .string t], .bool true]) W) := fun W hW => by
          have := LK.out W hW
          rw [ht] at this
          exact this
        have HR := hide1 hr
        have kN := fun w => hide1 (numbered_any k0 t w (by
          have h1 := HE.out.1
          rw [hr] at h1
          exact HZ.out (k0, t) (by rw [h1]; simp)))
        clear LK ht hr
        go_upto_region 7 with (fail)
        refine region_f (F := [13]) (S := fun W => Inm s m a n (lk l) W) (by kernel_rfl) (HI.out.below (Below.refl _ _).drew (Nat.le_refl _)) (fun hS => ?_)
        generalize hU : World.drew wr = U at hS ⊢
        have bU : Hid (Below wr.heap.size wr U) := by rw [← hU]; exact (Below.refl _ _).drew
        clear hU
        refine take_p 0 13 (.pointer (some ⟨s, 0, none⟩)) rfl rfl (by kernel_rfl) (by kernel_rfl) (by kernel_rfl) (fun _ _ _ h => h) rfl (fun w => by go_simp) ?_
        try simp only [List.setIfInBounds_toArray, List.set_cons_zero, List.set_cons_succ]
        refine take_p 1 14 (.pointer (some ⟨s, 0, none⟩)) rfl rfl (by kernel_rfl) (by kernel_rfl) (by kernel_rfl) (fun _ _ _ h => h) rfl (fun w => by go_simp) ?_
        try simp only [List.setIfInBounds_toArray, List.set_cons_zero, List.set_cons_succ]
        refine take_p 2 15 (.pointer (some ⟨s, 1, none⟩)) rfl rfl (by kernel_rfl) (by kernel_rfl) (by kernel_rfl) (fun _ _ _ h => h) rfl (fun w => by go_simp) ?_
        try simp only [List.setIfInBounds_toArray, List.set_cons_zero, List.set_cons_succ]
        refine take_f 3 16 (m) [8, 9, 10, 11, 13, 14] rfl rfl (by kernel_rfl) (by kernel_rfl) (by kernel_rfl) (by kernel_rfl) (by kernel_rfl) (by kernel_rfl) (fun _ _ _ h => h) rfl (fun w hSw => by obtain ⟨_, c1, _, _, _⟩ := box2 hSw.row; go_simp) hS ?_
        try simp only [List.setIfInBounds_toArray, List.set_cons_zero, List.set_cons_succ]
        refine take_p 4 17 (.pointer (some ⟨s, 0, none⟩)) rfl rfl (by kernel_rfl) (by kernel_rfl) (by kernel_rfl) (fun _ _ _ h => h) rfl (fun w => by go_simp) ?_
        try simp only [List.setIfInBounds_toArray, List.set_cons_zero, List.set_cons_succ]
        refine take_p 6 19 (.int .u32 (i : Int)) rfl rfl (by kernel_rfl) (by kernel_rfl) (by kernel_rfl) (fun _ _ _ h => h) rfl (fun w => by go_simp) ?_
        try simp only [List.setIfInBounds_toArray, List.set_cons_zero, List.set_cons_succ]
        refine ready2_f 5 12 (o := { dst := some 18, op := Op.call { callee := Callee.value (Operand.func 23), args := #[Operand.tmp 17], argTypes := #[67] }, type := 22, pos := "window.go:120", after := #[{ on := 4, ground := Ground.data }], guard := none }) (o' := { dst := some 5, op := Op.alloc 65, type := 0, pos := "window.go:120", after := #[], guard := none }) (by kernel_rfl) rfl rfl (fun K hK => ?oatrue) (fun K hK => ?obtrue)
        case' oatrue =>
          go_simp
          refine (KA.out _ hS).mono ?_
          rintro e W1 ⟨rfl, hw1⟩
          obtain rfl := hw1.symm
          refine hK.out _ _ (fun _ h => h) ?_
          clear hK K
          try simp only [Act.put, List.setIfInBounds_toArray, List.set_cons_zero, List.set_cons_succ]
          refine take_p 7 20 (.int .u32 ((k0 : Nat) : Int)) rfl rfl (by kernel_rfl) (by kernel_rfl) (by kernel_rfl) (fun _ _ _ h => h) rfl (fun w => by go_simp; have e9 := HKK.out; simp only [IntKind.wrap_u32]; go_num) ?_
          try simp only [List.setIfInBounds_toArray, List.set_cons_zero, List.set_cons_succ]
          refine take_f 8 21 (.tuple #[.agg #[.int .u32 ((k0 : Nat) : Int), .string t], .bool true]) [9, 10, 11, 13, 14] rfl rfl (by kernel_rfl) (by kernel_rfl) (by kernel_rfl) (by kernel_rfl) (by kernel_rfl) (by kernel_rfl) (fun _ _ _ h => h) rfl (fun w hSw => by have hl := HLK.out w hSw; go_simp) hS ?_
          try simp only [List.setIfInBounds_toArray, List.set_cons_zero, List.set_cons_succ]
          refine take_p 9 12 (.tuple #[.agg #[.int .u32 ((k0 : Nat) : Int), .string t], .bool true]) rfl rfl (by kernel_rfl) (by kernel_rfl) (by kernel_rfl) (fun _ _ _ h => h) rfl (fun w => by go_simp) ?_
          try simp only [List.setIfInBounds_toArray, List.set_cons_zero, List.set_cons_succ]
          refine take_p 10 22 (.agg #[.int .u32 ((k0 : Nat) : Int), .string t]) rfl rfl (by kernel_rfl) (by kernel_rfl) (by kernel_rfl) (fun _ _ _ h => h) rfl (fun w => by go_simp) ?_
          try simp only [List.setIfInBounds_toArray, List.set_cons_zero, List.set_cons_succ]
          refine take_p 11 23 (.bool true) rfl rfl (by kernel_rfl) (by kernel_rfl) (by kernel_rfl) (fun _ _ _ h => h) rfl (fun w => by go_simp) ?_
          try simp only [List.setIfInBounds_toArray, List.set_cons_zero, List.set_cons_succ]
          refine ready_f 12 (o := { dst := some 5, op := Op.alloc 65, type := 0, pos := "window.go:120", after := #[], guard := none }) (by kernel_rfl) rfl (fun K hK => ?_)
          go_simp
          refine hK.out _ _ (fun _ h => h.below (below1 _) (Nat.le_refl _)) ?_
          clear hK K
          try simp only [Act.put, List.setIfInBounds_toArray, List.set_cons_zero, List.set_cons_succ]
          generalize hU9 : World.alloc U _ = W9
          have b9 : Hid (Below wr.heap.size wr W9) := by rw [← hU9]; exact bU.out.alloc bU.out.size _
          have r9 : W9.heap[U.heap.size]? = some (.cells #[.int .u32 0, .string ⟨#[]⟩] 65 (0, 0)) := by rw [← hU9]; exact heap_alloc_new _ _
          have g9 : Hid (wr.heap.size ≤ U.heap.size) := bU.out.size
          generalize U.heap.size = g at r9 g9 ⊢
          obtain ⟨_, _, f0, _, _⟩ := box2 r9
          obtain ⟨f1, _⟩ := free2 (x' := .int .u32 ((k0 : Nat) : Int)) r9
          have R9 := hide1 r9
          clear hU9 r9 bU hS
          refine ready_f 13 (o := { dst := none, op := Op.store 65 (Operand.tmp 5) (Operand.tmp 22), type := 0, pos := "window.go:120", after := #[{ on := 12, ground := Ground.data }, { on := 10, ground := Ground.data }, { on := 5, ground := Ground.chain }, { on := 0, ground := Ground.phase }, { on := 1, ground := Ground.phase }, { on := 2, ground := Ground.phase }, { on := 3, ground := Ground.phase }, { on := 4, ground := Ground.phase }, { on := 5, ground := Ground.phase }, { on := 6, ground := Ground.phase }, { on := 7, ground := Ground.phase }, { on := 8, ground := Ground.phase }, { on := 9, ground := Ground.phase }, { on := 10, ground := Ground.phase }, { on := 11, ground := Ground.textOnly Departure.lateStores }, { on := 12, ground := Ground.phase }], guard := none }) (by kernel_rfl) rfl (fun K hK => ?_)
          go_simp
          refine hK.out _ _ (fun h => absurd (by decide) h) ?_
          clear hK K
          refine take_p 14 6 (.bool true) rfl rfl (by kernel_rfl) (by kernel_rfl) (by kernel_rfl) (fun _ _ _ h => h) rfl (fun w => by go_simp) ?_
          try simp only [List.setIfInBounds_toArray, List.set_cons_zero, List.set_cons_succ]
          refine done_f (by kernel_rfl) ?_ _
        case' obtrue =>
          go_simp
          refine hK.out _ _ (fun _ h => h.below (below1 _) (Nat.le_refl _)) ?_
          clear hK K
          try simp only [Act.put, List.setIfInBounds_toArray, List.set_cons_zero, List.set_cons_succ]
          replace hS := hS.below (below1 (.cells #[.int .u32 0, .string ⟨#[]⟩] 65)) (Nat.le_refl _)
          refine ready_f 5 (o := { dst := some 18, op := Op.call { callee := Callee.value (Operand.func 23), args := #[Operand.tmp 17], argTypes := #[67] }, type := 22, pos := "window.go:120", after := #[{ on := 4, ground := Ground.data }], guard := none }) (by kernel_rfl) rfl (fun K hK => ?_)
          go_simp
          refine (KA.out _ hS).mono ?_
          rintro e W1 ⟨rfl, hw1⟩
          obtain rfl := hw1.symm
          refine hK.out _ _ (fun _ h => h) ?_
          clear hK K
          try simp only [Act.put, List.setIfInBounds_toArray, List.set_cons_zero, List.set_cons_succ]
          refine take_p 7 20 (.int .u32 ((k0 : Nat) : Int)) rfl rfl (by kernel_rfl) (by kernel_rfl) (by kernel_rfl) (fun _ _ _ h => h) rfl (fun w => by go_simp; have e9 := HKK.out; simp only [IntKind.wrap_u32]; go_num) ?_
          try simp only [List.setIfInBounds_toArray, List.set_cons_zero, List.set_cons_succ]
          refine take_f 8 21 (.tuple #[.agg #[.int .u32 ((k0 : Nat) : Int), .string t], .bool true]) [9, 10, 11, 13, 14] rfl rfl (by kernel_rfl) (by kernel_rfl) (by kernel_rfl) (by kernel_rfl) (by kernel_rfl) (by kernel_rfl) (fun _ _ _ h => h) rfl (fun w hSw => by have hl := HLK.out w hSw; go_simp) hS ?_
          try simp only [List.setIfInBounds_toArray, List.set_cons_zero, List.set_cons_succ]
          refine take_p 9 12 (.tuple #[.agg #[.int .u32 ((k0 : Nat) : Int), .string t], .bool true]) rfl rfl (by kernel_rfl) (by kernel_rfl) (by kernel_rfl) (fun _ _ _ h => h) rfl (fun w => by go_simp) ?_
          try simp only [List.setIfInBounds_toArray, List.set_cons_zero, List.set_cons_succ]
          refine take_p 10 22 (.agg #[.int .u32 ((k0 : Nat) : Int), .string t]) rfl rfl (by kernel_rfl) (by kernel_rfl) (by kernel_rfl) (fun _ _ _ h => h) rfl (fun w => by go_simp) ?_
          try simp only [List.setIfInBounds_toArray, List.set_cons_zero, List.set_cons_succ]
          refine take_p 11 23 (.bool true) rfl rfl (by kernel_rfl) (by kernel_rfl) (by kernel_rfl) (fun _ _ _ h => h) rfl (fun w => by go_simp) ?_
          try simp only [List.setIfInBounds_toArray, List.set_cons_zero, List.set_cons_succ]
          generalize hU9 : World.alloc U _ = W9
          have b9 : Hid (Below wr.heap.size wr W9) := by rw [← hU9]; exact bU.out.alloc bU.out.size _
          have r9 : W9.heap[U.heap.size]? = some (.cells #[.int .u32 0, .string ⟨#[]⟩] 65 (0, 0)) := by rw [← hU9]; exact heap_alloc_new _ _
          have g9 : Hid (wr.heap.size ≤ U.heap.size) := bU.out.size
          generalize U.heap.size = g at r9 g9 ⊢
          obtain ⟨_, _, f0, _, _⟩ := box2 r9
          obtain ⟨f1, _⟩ := free2 (x' := .int .u32 ((k0 : Nat) : Int)) r9
          have R9 := hide1 r9
          clear hU9 r9 bU hS
          refine ready_f 13 (o := { dst := none, op := Op.store 65 (Operand.tmp 5) (Operand.tmp 22), type := 0, pos := "window.go:120", after := #[{ on := 12, ground := Ground.data }, { on := 10, ground := Ground.data }, { on := 5, ground := Ground.chain }, { on := 0, ground := Ground.phase }, { on := 1, ground := Ground.phase }, { on := 2, ground := Ground.phase }, { on := 3, ground := Ground.phase }, { on := 4, ground := Ground.phase }, { on := 5, ground := Ground.phase }, { on := 6, ground := Ground.phase }, { on := 7, ground := Ground.phase }, { on := 8, ground := Ground.phase }, { on := 9, ground := Ground.phase }, { on := 10, ground := Ground.phase }, { on := 11, ground := Ground.textOnly Departure.lateStores }, { on := 12, ground := Ground.phase }], guard := none }) (by kernel_rfl) rfl (fun K hK => ?_)
          go_simp
          refine hK.out _ _ (fun h => absurd (by decide) h) ?_
          clear hK K
          refine take_p 14 6 (.bool true) rfl rfl (by kernel_rfl) (by kernel_rfl) (by kernel_rfl) (fun _ _ _ h => h) rfl (fun w => by go_simp) ?_
          try simp only [List.setIfInBounds_toArray, List.set_cons_zero, List.set_cons_succ]
          refine done_f (by kernel_rfl) ?_ _
        all_goals
          have bA : Hid (Below wr.heap.size wr ((W9.setCell ⟨g, 0, none⟩ (.int .u32 (k0 : Int))).setCell ⟨g, 1, none⟩ (.string t))) := below_set2 b9.out g9.out
          have rA : Hid (((W9.setCell ⟨g, 0, none⟩ (.int .u32 (k0 : Int))).setCell ⟨g, 1, none⟩ (.string t)).heap[g]? = some (.cells #[.int .u32 (k0 : Int), .string t] 65 (0, 0))) := set_box2 R9.out
          generalize (W9.setCell ⟨g, 0, none⟩ (.int .u32 (k0 : Int))).setCell ⟨g, 1, none⟩ (.string t) = WA at bA rA ⊢
          obtain ⟨d0, d1, _, _, _⟩ := box2 rA.out
          clear f0 f1 R9 b9 KA HLK
          go_wp2_with fail
          refine (kN _).out.mono ?_
          rintro e WB ⟨rfl, hbB⟩
          have bB : Hid (Below wr.heap.size wr WB) := bA.out.trans (hbB.mono bA.out.size)
          have bC : Hid (Below wr.heap.size wr (WB.alloc (.cells #[.int .u32 (k0 : Int), .string t] 65))) := bB.out.alloc bB.out.size _
          have LC := hide1 (HL.out.below bC.out (Nat.le_refl _))
          have RC := hide1 (Rnl.one WB 65 k0 t)
          have HLE : Hid (p.length ≤ 1000000 ∧ w.heap.size ≤ (WB.alloc (.cells #[.int .u32 (k0 : Int), .string t] 65)).heap.size) := by
              have h1 := HE.out.1
              have h2 := HD.out.len
              rw [h1, List.length_append] at h2
              have h3 := HB.out.size
              have h4 := bC.out.size
              exact ⟨by omega, by omega⟩
          unfold elV
          clear hbB kN bA rA d0 d1 bB
          go_wp2_with (at_builtin; go_must (refine wpList_append_nls ntyW rfl _ _ rfl rfl rfl LC.out RC.out HLE.out.1 HLE.out.2 ?_); intro v2 WE ho hg hf; have HO := hide1 ho; have HG := hide1 hg; clear ho hg hf)
          go_roundw
          case rel =>
              obtain ⟨e1, e2, e3⟩ := HE.out
              have e4 := HKK.out
              have e5 := HR.out
              have hsr := HD.out.srt
              rw [e1, e5] at hsr
              have hs2 := (List.pairwise_append.1 hsr).2.1
              refine ⟨i + 1, p ++ [(k0, t)], r', v2, by omega, by go_num, rfl, HO.out, ?_, by rw [e1, e5]; simp, fun x hx => ?_, fun x hx => ?_⟩
              · exact (HB.out.trans (bC.out.mono HB.out.size)).grown HG.out HLE.out.2 (fun k hk => (HL.out.lt hk).1)
              · rcases List.mem_append.1 hx with h1 | h1
                · have := e2 x h1
                  omega
                · simp only [List.mem_singleton] at h1
                  rw [h1]
                  simp only
                  omega
              · have := low_tail hs2 x hx
                simp only at this
                omega
          case measure => simp [intOf]; omega
    · have gin : ¬ (i : Int) < 16 := by omega
      go_wp2
      go_ret
      obtain ⟨e1, e2, e3⟩ := HE.out
      have hr0 : r = [] := by
        cases r with
        | nil => rfl
        | cons y r' =>
          have h1 := e3 y (by simp)
          have h2 := HD.out.upto y (by rw [e1]; simp)
          omega
      rw [hr0, List.append_nil] at e1
      rw [e1]
      exact ⟨_, rfl, HL.out, HB.out⟩

end Go.Proofs.Ytjingknkjokldaa
