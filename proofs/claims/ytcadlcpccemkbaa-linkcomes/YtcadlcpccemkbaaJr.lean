/- release: what is held from the awaited number on is told, up to a gap. -/
import Derived.Test.YtcadlcpccemkbaaMJaJiVl
import Derived.Test.YtcadlcpccemkbaaVf
namespace Go.Proofs.Ytcadlcpccemkbaa
open Go.RowKit
set_option maxRecDepth 100000
attribute [local go_sem] not_any

def lenOf : Value → Nat
  | .slice _ n _ => n
  | _ => 0
theorem Lst.len {B : Nat} {w : World} {v : Value} {A : List ByteArray} (h : Lst B w v A) : lenOf v = A.length := by
  obtain ⟨a, c, rfl⟩ := h.form
  rfl
theorem Rdl.one1 (w : World) (s : ByteArray) (g : Nat) (hg : w.heap.size = g) : Rdl (w.alloc (.cells #[.string s] 9)) (.slice (some ⟨g, 0, none⟩) 1 1) [s] := hg ▸ Rdl.one w s
theorem Inm.told {Y : IX} {s a b n : Nat} {m : Value} {f g : Nat → Option ByteArray} {w : World} (h : Inm Y s m a n f w) (hm : Mp w m n g) : Inm Y s m b n g (w.setCell ⟨s, 6, none⟩ (.int .u32 (b : Int))) := by
  have hks : ∀ k, mblk m = some k → k ≠ s := fun k hk e => h.ne (e ▸ hk)
  refine ⟨?_, hm.same fun k hk => heap_setCell_other _ _ _ _ (hks k hk), h.ne⟩
  rw [heap_setCell_same _ s 6 _ _ _ h.row]
  rfl

set_option maxHeartbeats 2000000 in
theorem release_any {Y : IX} {s a n : Nat} {m : Value} {l : List (Nat × ByteArray)} {w : World} (h : Inm Y s m a n (lk l) w) (hsr : Srt l) (hlo : Low (a + 1) l) (hup : Upto 4294967295 l) (hln : l.length ≤ 1000) (ha : a + 1 < 4294967296) :
    Calls Try.prog 64 #[.pointer (some ⟨s, 6, none⟩)] w fun e w' => ∃ v, e = .returned v ∧ Lst w.heap.size w' v (stO (a + 1) l) ∧ Inm Y s m (a + (stO (a + 1) l).length) n (lk (stR (a + 1) l)) w' ∧ Kp (Inf s m) w w' := by
  have H := hide1 h
  have LN := hide1 hln
  have hup' := hide1 hup
  obtain ⟨mb, rfl⟩ := h.mp.form
  obtain ⟨m, hm⟩ : ∃ m, Value.map mb = m := ⟨_, rfl⟩
  have HMM := hide1 hm
  rw [hm] at H ⊢
  have hst : Hid (Srt l ∧ Low (a + 1) l) := ⟨hsr, hlo⟩
  clear h hsr hlo hup hm hln
  go_enter Try.func64, Try.ntmps64
  go_wp2_with fail
  go_loopw [3] (fun v wr => ∃ (n0 : Nat) (r : List (Nat × ByteArray)) (o : List ByteArray) (u : Value), v = u ∧ Lst w.heap.size wr u o ∧ Inm Y s m (n0 - 1) n (lk r) wr ∧ Kp (Inf s m) w wr ∧ n0 = a + 1 + o.length ∧ stO (a + 1) l = o ++ stO n0 r ∧ stR (a + 1) l = stR n0 r ∧ Srt r ∧ Low n0 r ∧ (∀ p ∈ r, p.1 < 4294967295) ∧ n0 < 4294967296) (fun v _ => (stO (a + 1) l).length - lenOf v)
  case atStart => exact ⟨a + 1, l, [], _, rfl, Lst.nil _ _, H.out, Kp.refl _ _, rfl, rfl, rfl, hst.out.1, hst.out.2, hup'.out, ha⟩
  case round =>
    obtain ⟨n0, r, o, v, hv, hL, hI, hK0, hn0, hO, hR, hsr, hlo, hur, hn1⟩ := hrel
    obtain rfl := hv.symm
    have HL := hide1 hL
    have HI := hide1 hI
    have HK := hide1 hK0
    have HE := hide1 (And.intro hn0 (And.intro hO hR))
    have HS := hide1 (And.intro hsr (And.intro hlo hur))
    have e0 : n0 - 1 + 1 = n0 := by omega
    have KA : Hid (∀ W, Inm Y s m (n0 - 1) n (lk r) W → Calls Try.prog 38 #[.pointer (some ⟨s, 6, none⟩)] W fun e w' => e = .returned (.int .u32 ((n0 : Nat) : Int)) ∧ w' = W) := fun W hW => by
      have := awaited_any hW (by omega)
      rw [e0] at this
      exact this
    have LK : Hid (∀ W, Inm Y s m (n0 - 1) n (lk r) W → (Instr.lookup 50 m (.int .u32 (n0 : Int)) true).run Try.prog W = .ok (.tuple #[got n0 (lk r n0), .bool (lk r n0).isSome]) W) := fun W hW => hW.mp.look hn1
    have ht : lk r n0 = none ∨ ∃ t r', r = (n0, t) :: r' ∧ lk r n0 = some t := by
      cases r with
      | nil => exact .inl rfl
      | cons p r' =>
        have := lk_first hsr hlo
        by_cases e : p.1 = n0
        · rw [if_pos e] at this
          exact .inr ⟨p.2, r', by rw [← e], this⟩
        · rw [if_neg e] at this
          exact .inl this
    clear hL hI hK0 hn0 hO hR hsr hlo hur
    rcases ht with ht | ⟨t, r', hr, ht⟩
    · have HLK : Hid (∀ W, Inm Y s m (n0 - 1) n (lk r) W → (Instr.lookup 50 m (.int .u32 (n0 : Int)) true).run Try.prog W = .ok (.tuple #[.agg #[.int .u32 0, .string ⟨#[]⟩], .bool false]) W) := fun W hW => by
        have := LK.out W hW
        rw [ht] at this
        exact this
      have HT := hide1 ht
      clear LK ht
      skip
      go_upto_region 2 with (fail)
      refine region_f (F := [11]) (S := fun W => Inm Y s m (n0 - 1) n (lk r) W) (by kernel_rfl) (HI.out.below (Below.refl _ _).drew (Nat.le_refl _)) (fun hS => ?_)
      generalize hU : World.drew wr = U at hS ⊢
      have bU : Hid (Below wr.heap.size wr U) := by rw [← hU]; exact (Below.refl _ _).drew
      clear hU
      refine take_p 0 7 (.pointer (some ⟨s, 6, none⟩)) rfl rfl (by kernel_rfl) (by kernel_rfl) (by kernel_rfl) (fun _ _ _ h => h) rfl (fun w => by go_simp) ?_
      try simp only [List.setIfInBounds_toArray, List.set_cons_zero, List.set_cons_succ]
      refine take_p 1 8 (.pointer (some ⟨s, 6, none⟩)) rfl rfl (by kernel_rfl) (by kernel_rfl) (by kernel_rfl) (fun _ _ _ h => h) rfl (fun w => by go_simp) ?_
      try simp only [List.setIfInBounds_toArray, List.set_cons_zero, List.set_cons_succ]
      refine take_p 2 9 (.pointer (some ⟨s, 7, none⟩)) rfl rfl (by kernel_rfl) (by kernel_rfl) (by kernel_rfl) (fun _ _ _ h => h) rfl (fun w => by go_simp) ?_
      try simp only [List.setIfInBounds_toArray, List.set_cons_zero, List.set_cons_succ]
      refine take_f 3 10 (m) [6, 7, 8, 9, 11, 12] rfl rfl (by kernel_rfl) (by kernel_rfl) (by kernel_rfl) (by kernel_rfl) (by kernel_rfl) (by kernel_rfl) (fun _ _ _ h => h) rfl (fun w hSw => by obtain ⟨_, c1, _, _, _⟩ := boxI hSw.row; go_simp) hS ?_
      try simp only [List.setIfInBounds_toArray, List.set_cons_zero, List.set_cons_succ]
      refine take_p 4 11 (.pointer (some ⟨s, 6, none⟩)) rfl rfl (by kernel_rfl) (by kernel_rfl) (by kernel_rfl) (fun _ _ _ h => h) rfl (fun w => by go_simp) ?_
      try simp only [List.setIfInBounds_toArray, List.set_cons_zero, List.set_cons_succ]
      refine ready2_f 5 10 (o := { dst := some 12, op := Op.call { callee := Callee.value (Operand.func 38), args := #[Operand.tmp 11], argTypes := #[103] }, type := 28, pos := "window.go:146", after := #[{ on := 4, ground := Ground.data }], guard := none }) (o' := { dst := some 4, op := Op.alloc 83, type := 0, pos := "window.go:146", after := #[], guard := none }) (by kernel_rfl) rfl rfl (fun K hK => ?oafalse) (fun K hK => ?obfalse)
      case' oafalse =>
        go_simp
        refine (KA.out _ hS).mono ?_
        rintro e W1 ⟨rfl, hw1⟩
        obtain rfl := hw1.symm
        refine hK.out _ _ (fun _ h => h) ?_
        clear hK K
        try simp only [Act.put, List.setIfInBounds_toArray, List.set_cons_zero, List.set_cons_succ]
        refine take_f 6 13 (.tuple #[.agg #[.int .u32 0, .string ⟨#[]⟩], .bool false]) [7, 8, 9, 11, 12] rfl rfl (by kernel_rfl) (by kernel_rfl) (by kernel_rfl) (by kernel_rfl) (by kernel_rfl) (by kernel_rfl) (fun _ _ _ h => h) rfl (fun w hSw => by have hl := HLK.out w hSw; go_simp) hS ?_
        try simp only [List.setIfInBounds_toArray, List.set_cons_zero, List.set_cons_succ]
        refine take_p 7 6 (.tuple #[.agg #[.int .u32 0, .string ⟨#[]⟩], .bool false]) rfl rfl (by kernel_rfl) (by kernel_rfl) (by kernel_rfl) (fun _ _ _ h => h) rfl (fun w => by go_simp) ?_
        try simp only [List.setIfInBounds_toArray, List.set_cons_zero, List.set_cons_succ]
        refine take_p 8 14 (.agg #[.int .u32 0, .string ⟨#[]⟩]) rfl rfl (by kernel_rfl) (by kernel_rfl) (by kernel_rfl) (fun _ _ _ h => h) rfl (fun w => by go_simp) ?_
        try simp only [List.setIfInBounds_toArray, List.set_cons_zero, List.set_cons_succ]
        refine take_p 9 15 (.bool false) rfl rfl (by kernel_rfl) (by kernel_rfl) (by kernel_rfl) (fun _ _ _ h => h) rfl (fun w => by go_simp) ?_
        try simp only [List.setIfInBounds_toArray, List.set_cons_zero, List.set_cons_succ]
        refine ready_f 10 (o := { dst := some 4, op := Op.alloc 83, type := 0, pos := "window.go:146", after := #[], guard := none }) (by kernel_rfl) rfl (fun K hK => ?_)
        go_simp
        refine hK.out _ _ (fun _ h => h.below (below1 _) (Nat.le_refl _)) ?_
        clear hK K
        try simp only [Act.put, List.setIfInBounds_toArray, List.set_cons_zero, List.set_cons_succ]
        generalize hU9 : World.alloc U _ = W9
        have b9 : Hid (Below wr.heap.size wr W9) := by rw [← hU9]; exact bU.out.alloc bU.out.size _
        have r9 : W9.heap[U.heap.size]? = some (.cells #[.int .u32 0, .string ⟨#[]⟩] 83 (0, 0)) := by rw [← hU9]; exact heap_alloc_new _ _
        have g9 : Hid (wr.heap.size ≤ U.heap.size) := bU.out.size
        generalize U.heap.size = g at r9 g9 ⊢
        obtain ⟨_, _, f0, _, _⟩ := box2 r9
        obtain ⟨f1, _⟩ := free2 (x' := .int .u32 0) r9
        have R9 := hide1 r9
        clear hU9 r9 bU hS
        refine ready_f 11 (o := { dst := none, op := Op.store 83 (Operand.tmp 4) (Operand.tmp 14), type := 0, pos := "window.go:146", after := #[{ on := 10, ground := Ground.data }, { on := 8, ground := Ground.data }, { on := 5, ground := Ground.chain }, { on := 0, ground := Ground.phase }, { on := 1, ground := Ground.phase }, { on := 2, ground := Ground.phase }, { on := 3, ground := Ground.phase }, { on := 4, ground := Ground.phase }, { on := 5, ground := Ground.phase }, { on := 6, ground := Ground.phase }, { on := 7, ground := Ground.phase }, { on := 8, ground := Ground.phase }, { on := 9, ground := Ground.textOnly Departure.lateStores }, { on := 10, ground := Ground.phase }], guard := none }) (by kernel_rfl) rfl (fun K hK => ?_)
        go_simp
        refine hK.out _ _ (fun h => absurd (by decide) h) ?_
        clear hK K
        refine take_p 12 5 (.bool false) rfl rfl (by kernel_rfl) (by kernel_rfl) (by kernel_rfl) (fun _ _ _ h => h) rfl (fun w => by go_simp) ?_
        try simp only [List.setIfInBounds_toArray, List.set_cons_zero, List.set_cons_succ]
        refine done_f (by kernel_rfl) ?_ _
      case' obfalse =>
        go_simp
        refine hK.out _ _ (fun _ h => h.below (below1 _) (Nat.le_refl _)) ?_
        clear hK K
        try simp only [Act.put, List.setIfInBounds_toArray, List.set_cons_zero, List.set_cons_succ]
        replace hS := hS.below (below1 (.cells #[.int .u32 0, .string ⟨#[]⟩] 83)) (Nat.le_refl _)
        refine ready_f 5 (o := { dst := some 12, op := Op.call { callee := Callee.value (Operand.func 38), args := #[Operand.tmp 11], argTypes := #[103] }, type := 28, pos := "window.go:146", after := #[{ on := 4, ground := Ground.data }], guard := none }) (by kernel_rfl) rfl (fun K hK => ?_)
        go_simp
        refine (KA.out _ hS).mono ?_
        rintro e W1 ⟨rfl, hw1⟩
        obtain rfl := hw1.symm
        refine hK.out _ _ (fun _ h => h) ?_
        clear hK K
        try simp only [Act.put, List.setIfInBounds_toArray, List.set_cons_zero, List.set_cons_succ]
        refine take_f 6 13 (.tuple #[.agg #[.int .u32 0, .string ⟨#[]⟩], .bool false]) [7, 8, 9, 11, 12] rfl rfl (by kernel_rfl) (by kernel_rfl) (by kernel_rfl) (by kernel_rfl) (by kernel_rfl) (by kernel_rfl) (fun _ _ _ h => h) rfl (fun w hSw => by have hl := HLK.out w hSw; go_simp) hS ?_
        try simp only [List.setIfInBounds_toArray, List.set_cons_zero, List.set_cons_succ]
        refine take_p 7 6 (.tuple #[.agg #[.int .u32 0, .string ⟨#[]⟩], .bool false]) rfl rfl (by kernel_rfl) (by kernel_rfl) (by kernel_rfl) (fun _ _ _ h => h) rfl (fun w => by go_simp) ?_
        try simp only [List.setIfInBounds_toArray, List.set_cons_zero, List.set_cons_succ]
        refine take_p 8 14 (.agg #[.int .u32 0, .string ⟨#[]⟩]) rfl rfl (by kernel_rfl) (by kernel_rfl) (by kernel_rfl) (fun _ _ _ h => h) rfl (fun w => by go_simp) ?_
        try simp only [List.setIfInBounds_toArray, List.set_cons_zero, List.set_cons_succ]
        refine take_p 9 15 (.bool false) rfl rfl (by kernel_rfl) (by kernel_rfl) (by kernel_rfl) (fun _ _ _ h => h) rfl (fun w => by go_simp) ?_
        try simp only [List.setIfInBounds_toArray, List.set_cons_zero, List.set_cons_succ]
        generalize hU9 : World.alloc U _ = W9
        have b9 : Hid (Below wr.heap.size wr W9) := by rw [← hU9]; exact bU.out.alloc bU.out.size _
        have r9 : W9.heap[U.heap.size]? = some (.cells #[.int .u32 0, .string ⟨#[]⟩] 83 (0, 0)) := by rw [← hU9]; exact heap_alloc_new _ _
        have g9 : Hid (wr.heap.size ≤ U.heap.size) := bU.out.size
        generalize U.heap.size = g at r9 g9 ⊢
        obtain ⟨_, _, f0, _, _⟩ := box2 r9
        obtain ⟨f1, _⟩ := free2 (x' := .int .u32 0) r9
        have R9 := hide1 r9
        clear hU9 r9 bU hS
        refine ready_f 11 (o := { dst := none, op := Op.store 83 (Operand.tmp 4) (Operand.tmp 14), type := 0, pos := "window.go:146", after := #[{ on := 10, ground := Ground.data }, { on := 8, ground := Ground.data }, { on := 5, ground := Ground.chain }, { on := 0, ground := Ground.phase }, { on := 1, ground := Ground.phase }, { on := 2, ground := Ground.phase }, { on := 3, ground := Ground.phase }, { on := 4, ground := Ground.phase }, { on := 5, ground := Ground.phase }, { on := 6, ground := Ground.phase }, { on := 7, ground := Ground.phase }, { on := 8, ground := Ground.phase }, { on := 9, ground := Ground.textOnly Departure.lateStores }, { on := 10, ground := Ground.phase }], guard := none }) (by kernel_rfl) rfl (fun K hK => ?_)
        go_simp
        refine hK.out _ _ (fun h => absurd (by decide) h) ?_
        clear hK K
        refine take_p 12 5 (.bool false) rfl rfl (by kernel_rfl) (by kernel_rfl) (by kernel_rfl) (fun _ _ _ h => h) rfl (fun w => by go_simp) ?_
        try simp only [List.setIfInBounds_toArray, List.set_cons_zero, List.set_cons_succ]
        refine done_f (by kernel_rfl) ?_ _
      all_goals
        go_wp2
        go_ret
        have hr0 : stO n0 r = [] ∧ stR n0 r = r := by
          cases r with
          | nil => exact ⟨rfl, rfl⟩
          | cons p r' =>
            have hne : p.1 ≠ n0 := lk_none HT.out p (by simp)
            exact ⟨by rw [stO, if_neg hne], by rw [stR, if_neg hne]⟩
        have bF : Below wr.heap.size wr ((W9.setCell ⟨g, 0, none⟩ (.int .u32 0)).setCell ⟨g, 1, none⟩ (.string ⟨#[]⟩)) := below_set2 b9.out g9.out
        obtain ⟨e1, e2, e3⟩ := HE.out
        refine ⟨_, rfl, ?_, ?_, HK.out.trans (Kp.ofBelow bF)⟩
        · rw [e2, hr0.1, List.append_nil]
          exact HL.out.below bF (Nat.le_refl _)
        · rw [e3, hr0.2, e2, hr0.1, List.append_nil, show a + o.length = n0 - 1 by omega]
          exact HI.out.below bF (Nat.le_refl _)
    · have HLK : Hid (∀ W, Inm Y s m (n0 - 1) n (lk r) W → (Instr.lookup 50 m (.int .u32 (n0 : Int)) true).run Try.prog W = .ok (.tuple #[.agg #[.int .u32 (n0 : Int), .string t], .bool true]) W) := fun W hW => by
        have := LK.out W hW
        rw [ht] at this
        exact this
      have HT := hide1 ht
      have HR := hide1 hr
      have hmb : ∃ b, m = .map (some b) := by
        rcases HI.out.mp with ⟨_, h0⟩ | ⟨b, rfl, _⟩
        · rw [h0 n0] at ht; cases ht
        · exact ⟨b, rfl⟩
      clear LK ht hr
      go_upto_region 2 with (fail)
      refine region_f (F := [11]) (S := fun W => Inm Y s m (n0 - 1) n (lk r) W) (by kernel_rfl) (HI.out.below (Below.refl _ _).drew (Nat.le_refl _)) (fun hS => ?_)
      generalize hU : World.drew wr = U at hS ⊢
      have bU : Hid (Below wr.heap.size wr U) := by rw [← hU]; exact (Below.refl _ _).drew
      clear hU
      refine take_p 0 7 (.pointer (some ⟨s, 6, none⟩)) rfl rfl (by kernel_rfl) (by kernel_rfl) (by kernel_rfl) (fun _ _ _ h => h) rfl (fun w => by go_simp) ?_
      try simp only [List.setIfInBounds_toArray, List.set_cons_zero, List.set_cons_succ]
      refine take_p 1 8 (.pointer (some ⟨s, 6, none⟩)) rfl rfl (by kernel_rfl) (by kernel_rfl) (by kernel_rfl) (fun _ _ _ h => h) rfl (fun w => by go_simp) ?_
      try simp only [List.setIfInBounds_toArray, List.set_cons_zero, List.set_cons_succ]
      refine take_p 2 9 (.pointer (some ⟨s, 7, none⟩)) rfl rfl (by kernel_rfl) (by kernel_rfl) (by kernel_rfl) (fun _ _ _ h => h) rfl (fun w => by go_simp) ?_
      try simp only [List.setIfInBounds_toArray, List.set_cons_zero, List.set_cons_succ]
      refine take_f 3 10 (m) [6, 7, 8, 9, 11, 12] rfl rfl (by kernel_rfl) (by kernel_rfl) (by kernel_rfl) (by kernel_rfl) (by kernel_rfl) (by kernel_rfl) (fun _ _ _ h => h) rfl (fun w hSw => by obtain ⟨_, c1, _, _, _⟩ := boxI hSw.row; go_simp) hS ?_
      try simp only [List.setIfInBounds_toArray, List.set_cons_zero, List.set_cons_succ]
      refine take_p 4 11 (.pointer (some ⟨s, 6, none⟩)) rfl rfl (by kernel_rfl) (by kernel_rfl) (by kernel_rfl) (fun _ _ _ h => h) rfl (fun w => by go_simp) ?_
      try simp only [List.setIfInBounds_toArray, List.set_cons_zero, List.set_cons_succ]
      refine ready2_f 5 10 (o := { dst := some 12, op := Op.call { callee := Callee.value (Operand.func 38), args := #[Operand.tmp 11], argTypes := #[103] }, type := 28, pos := "window.go:146", after := #[{ on := 4, ground := Ground.data }], guard := none }) (o' := { dst := some 4, op := Op.alloc 83, type := 0, pos := "window.go:146", after := #[], guard := none }) (by kernel_rfl) rfl rfl (fun K hK => ?oatrue) (fun K hK => ?obtrue)
      case' oatrue =>
        go_simp
        refine (KA.out _ hS).mono ?_
        rintro e W1 ⟨rfl, hw1⟩
        obtain rfl := hw1.symm
        refine hK.out _ _ (fun _ h => h) ?_
        clear hK K
        try simp only [Act.put, List.setIfInBounds_toArray, List.set_cons_zero, List.set_cons_succ]
        refine take_f 6 13 (.tuple #[.agg #[.int .u32 ((n0 : Nat) : Int), .string t], .bool true]) [7, 8, 9, 11, 12] rfl rfl (by kernel_rfl) (by kernel_rfl) (by kernel_rfl) (by kernel_rfl) (by kernel_rfl) (by kernel_rfl) (fun _ _ _ h => h) rfl (fun w hSw => by have hl := HLK.out w hSw; go_simp) hS ?_
        try simp only [List.setIfInBounds_toArray, List.set_cons_zero, List.set_cons_succ]
        refine take_p 7 6 (.tuple #[.agg #[.int .u32 ((n0 : Nat) : Int), .string t], .bool true]) rfl rfl (by kernel_rfl) (by kernel_rfl) (by kernel_rfl) (fun _ _ _ h => h) rfl (fun w => by go_simp) ?_
        try simp only [List.setIfInBounds_toArray, List.set_cons_zero, List.set_cons_succ]
        refine take_p 8 14 (.agg #[.int .u32 ((n0 : Nat) : Int), .string t]) rfl rfl (by kernel_rfl) (by kernel_rfl) (by kernel_rfl) (fun _ _ _ h => h) rfl (fun w => by go_simp) ?_
        try simp only [List.setIfInBounds_toArray, List.set_cons_zero, List.set_cons_succ]
        refine take_p 9 15 (.bool true) rfl rfl (by kernel_rfl) (by kernel_rfl) (by kernel_rfl) (fun _ _ _ h => h) rfl (fun w => by go_simp) ?_
        try simp only [List.setIfInBounds_toArray, List.set_cons_zero, List.set_cons_succ]
        refine ready_f 10 (o := { dst := some 4, op := Op.alloc 83, type := 0, pos := "window.go:146", after := #[], guard := none }) (by kernel_rfl) rfl (fun K hK => ?_)
        go_simp
        refine hK.out _ _ (fun _ h => h.below (below1 _) (Nat.le_refl _)) ?_
        clear hK K
        try simp only [Act.put, List.setIfInBounds_toArray, List.set_cons_zero, List.set_cons_succ]
        generalize hU9 : World.alloc U _ = W9
        have b9 : Hid (Below wr.heap.size wr W9) := by rw [← hU9]; exact bU.out.alloc bU.out.size _
        have r9 : W9.heap[U.heap.size]? = some (.cells #[.int .u32 0, .string ⟨#[]⟩] 83 (0, 0)) := by rw [← hU9]; exact heap_alloc_new _ _
        have g9 : Hid (wr.heap.size ≤ U.heap.size) := bU.out.size
        generalize U.heap.size = g at r9 g9 ⊢
        obtain ⟨_, _, f0, _, _⟩ := box2 r9
        obtain ⟨f1, _⟩ := free2 (x' := .int .u32 ((n0 : Nat) : Int)) r9
        have R9 := hide1 r9
        clear hU9 r9 bU hS
        refine ready_f 11 (o := { dst := none, op := Op.store 83 (Operand.tmp 4) (Operand.tmp 14), type := 0, pos := "window.go:146", after := #[{ on := 10, ground := Ground.data }, { on := 8, ground := Ground.data }, { on := 5, ground := Ground.chain }, { on := 0, ground := Ground.phase }, { on := 1, ground := Ground.phase }, { on := 2, ground := Ground.phase }, { on := 3, ground := Ground.phase }, { on := 4, ground := Ground.phase }, { on := 5, ground := Ground.phase }, { on := 6, ground := Ground.phase }, { on := 7, ground := Ground.phase }, { on := 8, ground := Ground.phase }, { on := 9, ground := Ground.textOnly Departure.lateStores }, { on := 10, ground := Ground.phase }], guard := none }) (by kernel_rfl) rfl (fun K hK => ?_)
        go_simp
        refine hK.out _ _ (fun h => absurd (by decide) h) ?_
        clear hK K
        refine take_p 12 5 (.bool true) rfl rfl (by kernel_rfl) (by kernel_rfl) (by kernel_rfl) (fun _ _ _ h => h) rfl (fun w => by go_simp) ?_
        try simp only [List.setIfInBounds_toArray, List.set_cons_zero, List.set_cons_succ]
        refine done_f (by kernel_rfl) ?_ _
      case' obtrue =>
        go_simp
        refine hK.out _ _ (fun _ h => h.below (below1 _) (Nat.le_refl _)) ?_
        clear hK K
        try simp only [Act.put, List.setIfInBounds_toArray, List.set_cons_zero, List.set_cons_succ]
        replace hS := hS.below (below1 (.cells #[.int .u32 0, .string ⟨#[]⟩] 83)) (Nat.le_refl _)
        refine ready_f 5 (o := { dst := some 12, op := Op.call { callee := Callee.value (Operand.func 38), args := #[Operand.tmp 11], argTypes := #[103] }, type := 28, pos := "window.go:146", after := #[{ on := 4, ground := Ground.data }], guard := none }) (by kernel_rfl) rfl (fun K hK => ?_)
        go_simp
        refine (KA.out _ hS).mono ?_
        rintro e W1 ⟨rfl, hw1⟩
        obtain rfl := hw1.symm
        refine hK.out _ _ (fun _ h => h) ?_
        clear hK K
        try simp only [Act.put, List.setIfInBounds_toArray, List.set_cons_zero, List.set_cons_succ]
        refine take_f 6 13 (.tuple #[.agg #[.int .u32 ((n0 : Nat) : Int), .string t], .bool true]) [7, 8, 9, 11, 12] rfl rfl (by kernel_rfl) (by kernel_rfl) (by kernel_rfl) (by kernel_rfl) (by kernel_rfl) (by kernel_rfl) (fun _ _ _ h => h) rfl (fun w hSw => by have hl := HLK.out w hSw; go_simp) hS ?_
        try simp only [List.setIfInBounds_toArray, List.set_cons_zero, List.set_cons_succ]
        refine take_p 7 6 (.tuple #[.agg #[.int .u32 ((n0 : Nat) : Int), .string t], .bool true]) rfl rfl (by kernel_rfl) (by kernel_rfl) (by kernel_rfl) (fun _ _ _ h => h) rfl (fun w => by go_simp) ?_
        try simp only [List.setIfInBounds_toArray, List.set_cons_zero, List.set_cons_succ]
        refine take_p 8 14 (.agg #[.int .u32 ((n0 : Nat) : Int), .string t]) rfl rfl (by kernel_rfl) (by kernel_rfl) (by kernel_rfl) (fun _ _ _ h => h) rfl (fun w => by go_simp) ?_
        try simp only [List.setIfInBounds_toArray, List.set_cons_zero, List.set_cons_succ]
        refine take_p 9 15 (.bool true) rfl rfl (by kernel_rfl) (by kernel_rfl) (by kernel_rfl) (fun _ _ _ h => h) rfl (fun w => by go_simp) ?_
        try simp only [List.setIfInBounds_toArray, List.set_cons_zero, List.set_cons_succ]
        generalize hU9 : World.alloc U _ = W9
        have b9 : Hid (Below wr.heap.size wr W9) := by rw [← hU9]; exact bU.out.alloc bU.out.size _
        have r9 : W9.heap[U.heap.size]? = some (.cells #[.int .u32 0, .string ⟨#[]⟩] 83 (0, 0)) := by rw [← hU9]; exact heap_alloc_new _ _
        have g9 : Hid (wr.heap.size ≤ U.heap.size) := bU.out.size
        generalize U.heap.size = g at r9 g9 ⊢
        obtain ⟨_, _, f0, _, _⟩ := box2 r9
        obtain ⟨f1, _⟩ := free2 (x' := .int .u32 ((n0 : Nat) : Int)) r9
        have R9 := hide1 r9
        clear hU9 r9 bU hS
        refine ready_f 11 (o := { dst := none, op := Op.store 83 (Operand.tmp 4) (Operand.tmp 14), type := 0, pos := "window.go:146", after := #[{ on := 10, ground := Ground.data }, { on := 8, ground := Ground.data }, { on := 5, ground := Ground.chain }, { on := 0, ground := Ground.phase }, { on := 1, ground := Ground.phase }, { on := 2, ground := Ground.phase }, { on := 3, ground := Ground.phase }, { on := 4, ground := Ground.phase }, { on := 5, ground := Ground.phase }, { on := 6, ground := Ground.phase }, { on := 7, ground := Ground.phase }, { on := 8, ground := Ground.phase }, { on := 9, ground := Ground.textOnly Departure.lateStores }, { on := 10, ground := Ground.phase }], guard := none }) (by kernel_rfl) rfl (fun K hK => ?_)
        go_simp
        refine hK.out _ _ (fun h => absurd (by decide) h) ?_
        clear hK K
        refine take_p 12 5 (.bool true) rfl rfl (by kernel_rfl) (by kernel_rfl) (by kernel_rfl) (fun _ _ _ h => h) rfl (fun w => by go_simp) ?_
        try simp only [List.setIfInBounds_toArray, List.set_cons_zero, List.set_cons_succ]
        refine done_f (by kernel_rfl) ?_ _
      all_goals
        have bA : Hid (Below wr.heap.size wr ((W9.setCell ⟨g, 0, none⟩ (.int .u32 (n0 : Int))).setCell ⟨g, 1, none⟩ (.string t))) := below_set2 b9.out g9.out
        have rA : Hid (((W9.setCell ⟨g, 0, none⟩ (.int .u32 (n0 : Int))).setCell ⟨g, 1, none⟩ (.string t)).heap[g]? = some (.cells #[.int .u32 (n0 : Int), .string t] 83 (0, 0))) := set_box2 R9.out
        generalize (W9.setCell ⟨g, 0, none⟩ (.int .u32 (n0 : Int))).setCell ⟨g, 1, none⟩ (.string t) = WA at bA rA ⊢
        have iA := hide1 (HI.out.below bA.out (Nat.le_refl _))
        obtain ⟨b, hb⟩ := hmb
        clear f0 f1 R9 b9 KA HLK
        go_upto_region 5 with (fail)
        refine region_f (F := [6]) (S := fun W => W.cell? ⟨s, 7, none⟩ = some m ∧ W.cell? ⟨g, 0, none⟩ = some (.int .u32 (n0 : Int))) (by kernel_rfl) ⟨(boxI iA.out.row).2.1, (box2 rA.out).1⟩ (fun hS => ?_)
        generalize hU : World.drew WA = WA2 at hS ⊢
        have bA2 : Hid (Below WA.heap.size WA WA2) := by rw [← hU]; exact (Below.refl _ _).drew
        have bA3 : Hid (Below wr.heap.size wr WA2) := bA.out.trans (bA2.out.mono bA.out.size)
        have rA2 : Hid (WA2.heap[g]? = some (.cells #[.int .u32 (n0 : Int), .string t] 83 (0, 0))) := (bA2.out.block g (lt_heap rA.out)).trans rA.out
        have iA2 := hide1 (iA.out.below bA2.out (Nat.le_refl _))
        clear hU bA2 rA iA bA
        refine take_p 0 19 (.pointer (some ⟨s, 6, none⟩)) rfl rfl (by kernel_rfl) (by kernel_rfl) (by kernel_rfl) (fun _ _ _ h => h) rfl (fun w => by go_simp) ?_
        try simp only [List.setIfInBounds_toArray, List.set_cons_zero, List.set_cons_succ]
        refine take_p 1 20 (.pointer (some ⟨s, 6, none⟩)) rfl rfl (by kernel_rfl) (by kernel_rfl) (by kernel_rfl) (fun _ _ _ h => h) rfl (fun w => by go_simp) ?_
        try simp only [List.setIfInBounds_toArray, List.set_cons_zero, List.set_cons_succ]
        refine take_p 2 21 (.pointer (some ⟨s, 7, none⟩)) rfl rfl (by kernel_rfl) (by kernel_rfl) (by kernel_rfl) (fun _ _ _ h => h) rfl (fun w => by go_simp) ?_
        try simp only [List.setIfInBounds_toArray, List.set_cons_zero, List.set_cons_succ]
        refine take_f 3 22 (m) [6] rfl rfl (by kernel_rfl) (by kernel_rfl) (by kernel_rfl) (by kernel_rfl) (by kernel_rfl) (by kernel_rfl) (fun _ _ _ h => h) rfl (fun w hSw => by obtain ⟨c0, c1⟩ := hSw; go_simp) hS ?_
        try simp only [List.setIfInBounds_toArray, List.set_cons_zero, List.set_cons_succ]
        refine take_p 4 23 (.pointer (some ⟨g, 0, none⟩)) rfl rfl (by kernel_rfl) (by kernel_rfl) (by kernel_rfl) (fun _ _ _ h => h) rfl (fun w => by go_simp) ?_
        try simp only [List.setIfInBounds_toArray, List.set_cons_zero, List.set_cons_succ]
        refine take_f 5 24 (.int .u32 (n0 : Int)) [6] rfl rfl (by kernel_rfl) (by kernel_rfl) (by kernel_rfl) (by kernel_rfl) (by kernel_rfl) (by kernel_rfl) (fun _ _ _ h => h) rfl (fun w hSw => by obtain ⟨c0, c1⟩ := hSw; go_simp) hS ?_
        try simp only [List.setIfInBounds_toArray, List.set_cons_zero, List.set_cons_succ]
        have hHm : Hm WA2 b n (lk r) := by
          rcases iA2.out.mp with ⟨h0, _⟩ | ⟨b', h0, h1⟩
          · rw [hb] at h0; cases h0
          · rw [hb] at h0; cases h0; exact h1
        refine ready_f 6 (o := { dst := none, op := Op.call { callee := Callee.builtin Builtin.delete, args := #[Operand.tmp 22, Operand.tmp 24], argTypes := #[50, 28] }, type := 0, pos := "window.go:150", after := #[{ on := 3, ground := Ground.data }, { on := 5, ground := Ground.data }], guard := none }) (by kernel_rfl) rfl (fun K hK => ?_)
        rw [if_pos (by rfl)]
        refine wp_delete _ _ rfl hb rfl hHm (by omega) ?_
        intro WB hB hgB
        refine hK.out _ _ (fun h => absurd (by decide) h) ?_
        clear hK K
        refine done_f (by kernel_rfl) ?_ _
        have hbs : b ≠ s := fun e => iA2.out.ne (by rw [hb, e]; rfl)
        have hbg : g ≠ b := fun e => by
          have h1 := HI.out.mp.lt (b := b) (by rw [hb]; rfl)
          have h2 := g9.out
          omega
        have sB : Hid (WB.heap[s]? = some (.cells #[Y.c0, Y.c1, Y.c2, Y.c3, Y.c4, Y.c5, .int .u32 ((n0 - 1 : Nat) : Int), m, Y.c8] 54 (0, 0))) := (hgB.block s (lt_heap iA2.out.row) (fun e => hbs (by cases e; rfl))).trans iA2.out.row
        have gB : Hid (WB.heap[g]? = some (.cells #[.int .u32 (n0 : Int), .string t] 83 (0, 0))) := (hgB.block g (lt_heap rA2.out) (fun e => hbg (by cases e; rfl))).trans rA2.out
        have hlk' : upd (lk r) n0 none = lk r' := by
          have e9 := HR.out
          have s9 := HS.out.1
          rw [e9] at s9 ⊢
          exact lk_tail s9
        have iB : Hid (Inm Y s m (n0 - 1) n (lk r') WB) := ⟨sB.out, .inr ⟨b, hb, hlk' ▸ hB⟩, iA2.out.ne⟩
        have kB : Hid (Kp (Inf s m) wr WB) := (Kp.ofBelow bA3.out).trans ((Kp.ofGrown hgB).mono fun k e => .inr (by rw [hb]; exact e))
        obtain ⟨c0, _, f0, _, _⟩ := boxI sB.out
        obtain ⟨d0, d1, _, _, _⟩ := box2 gB.out
        have hgs : g ≠ s := fun e => by
          have h1 := lt_heap HI.out.row
          have h2 := g9.out
          omega
        have iC : Hid (Inm Y s m n0 n (lk r') (WB.setCell ⟨s, 6, none⟩ (.int .u32 (n0 : Int)))) := iB.out.told iB.out.mp
        have kC : Hid (Kp (Inf s m) wr (WB.setCell ⟨s, 6, none⟩ (.int .u32 (n0 : Int)))) := kB.out.trans (Kp.setCell _ _ _ _ (.inl rfl))
        have gC : Hid ((WB.setCell ⟨s, 6, none⟩ (.int .u32 (n0 : Int))).heap[g]? = some (.cells #[.int .u32 (n0 : Int), .string t] 83 (0, 0))) := (heap_setCell_other _ _ _ _ hgs).trans gB.out
        have d1C : (WB.setCell ⟨s, 6, none⟩ (.int .u32 (n0 : Int))).cell? ⟨g, 1, none⟩ = some (.string t) := (box2 gC.out).2.1
        clear hlk' hB hgB hHm sB gB iB kB iA2 rA2 bA3 hS hbs hbg
        have HAPP : Hid (∀ (Wd : World), Below (WB.setCell ⟨s, 6, none⟩ (.int .u32 (n0 : Int))).heap.size (WB.setCell ⟨s, 6, none⟩ (.int .u32 (n0 : Int))) Wd → Lst w.heap.size Wd v o ∧ o.length + 1 ≤ 1000000 ∧ w.heap.size ≤ Wd.heap.size) := fun Wd hd => by
          have k1 : Kp (Inf s m) wr Wd := kC.out.trans (Kp.ofBelow hd)
          refine ⟨HL.out.kp k1 fun g hg hF => ?_, ?_, ?_⟩
          · have h1 := (HL.out.lt hg).1
            have h2 := H.out.flt hF
            omega
          · have h1 := HE.out.2.1
            have h2 := stO_le (n := a + 1) (l := l)
            rw [h1, List.length_append] at h2
            have := LN.out
            omega
          · have := HK.out.size
            have := k1.size
            omega
        have AP := hide1 (HAPP.out _ (below1 (.cells #[.string t] 9)))
        have RD := hide1 (Rdl.one1 (WB.setCell ⟨s, 6, none⟩ (.int .u32 (n0 : Int))) t WB.heap.size (by simp [World.setCell]))
        go_wp2_with (at_builtin; go_must (refine wpList_append_lst (C := [t]) rfl _ _ rfl rfl rfl AP.out.1 RD.out AP.out.2.1 AP.out.2.2 ?_); intro v2 WE ho hg hf; have HO := hide1 ho; have HG := hide1 hg; clear ho hg hf)
        go_roundw
        case rel =>
          obtain ⟨e1, e2, e3⟩ := HE.out
          obtain ⟨s1, s2, s3⟩ := HS.out
          have e9 := HR.out
          rw [e9] at e2 e3 s1 s2 s3
          have hn2 := s3 (n0, t) (by simp)
          rw [stO, if_pos rfl] at e2
          rw [stR, if_pos rfl] at e3
          have hbD := below1 (w := WB.setCell ⟨s, 6, none⟩ (.int .u32 (n0 : Int))) (.cells #[.string t] 9)
          have hdis : ∀ k, Inf s m k → v.ownBlock ≠ some k := fun k hk e => by
            have h1 := (HL.out.lt e).1
            have h2 := H.out.flt hk
            omega
          refine ⟨n0 + 1, r', o ++ [t], v2, rfl, HO.out, (iC.out.below hbD (Nat.le_refl _)).kp (Kp.ofGrown HG.out) hdis, ((HK.out.trans kC.out).trans (Kp.ofBelow hbD)).join (Kp.ofGrown HG.out) (fun k hk => .inr (HL.out.lt hk).1), by simp; omega, by rw [e2]; simp, e3, srt_tail s1, low_tail s1, fun p hp => s3 p (by simp [hp]), by omega⟩
        case measure =>
          obtain ⟨e1, e2, e3⟩ := HE.out
          have e9 := HR.out
          rw [e9, stO, if_pos rfl] at e2
          have h1 := HO.out.len
          have h2 := HL.out.len
          rw [h1, h2, e2]
          simp
          omega

end Go.Proofs.Ytcadlcpccemkbaa
