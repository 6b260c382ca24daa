/- Pure: whatever happens, both keep to it. Byte strings compared. -/
import Derived.Test.YtcadlcpccemkbaaMEhEi
import Derived.Test.YtcadlcpccemkbaaMVaVpVs
import Derived.Test.YtcadlcpccemkbaaVf
namespace Go.Proofs.Ytcadlcpccemkbaa
set_option maxRecDepth 100000

structure Wld (N : Nat) (S : Es) : Prop where
  l0 : (S.L 0).Ok N
  l1 : (S.L 1).Ok N
  n0 : (S.L 0).own ≤ N
  n1 : (S.L 1).own ≤ N
  w2 : (S.ls 2).length ≤ 60
  w3 : (S.ls 3).length ≤ 60
  s4 : (S.ls 4).length ≤ N
  s5 : (S.ls 5).length ≤ N
  g6 : (S.ls 6).length ≤ N
  g7 : (S.ls 7).length ≤ N
  p0 : Pr (S.L 0) (S.L 1) (S.ls 2) (S.ls 5) (S.ls 6)
  p1 : Pr (S.L 1) (S.L 0) (S.ls 3) (S.ls 4) (S.ls 7)
  a0 : Sn (S.L 0) (S.ls 4)
  a1 : Sn (S.L 1) (S.ls 5)
theorem Wld.ok {N : Nat} {S : Es} (h : Wld N S) : S.Ok N := by
  refine ⟨fun i hi => ?_, fun i h2 h4 => ?_, fun i h4 h8 => ?_, fun i hi => ?_⟩
  · rcases (show i = 0 ∨ i = 1 by omega) with rfl | rfl
    · exact h.l0
    · exact h.l1
  · rcases (show i = 2 ∨ i = 3 by omega) with rfl | rfl
    · exact ⟨h.w2, fun t ht => (h.p0.way t ht).size⟩
    · exact ⟨h.w3, fun t ht => (h.p1.way t ht).size⟩
  · rcases (show i = 4 ∨ i = 5 ∨ i = 6 ∨ i = 7 by omega) with rfl | rfl | rfl | rfl
    · exact h.s4
    · exact h.s5
    · exact h.g6
    · exact h.g7
  · rcases (show i = 0 ∨ i = 1 by omega) with rfl | rfl
    · exact h.n0
    · exact h.n1
theorem Wld.mono {N N' : Nat} {S : Es} (h : Wld N S) (hn : N ≤ N') : Wld N' S :=
  ⟨h.l0.mono hn, h.l1.mono hn, Nat.le_trans h.n0 hn, Nat.le_trans h.n1 hn, h.w2, h.w3, Nat.le_trans h.s4 hn, Nat.le_trans h.s5 hn, Nat.le_trans h.g6 hn, Nat.le_trans h.g7 hn, h.p0, h.p1, h.a0, h.a1⟩
theorem Ls.flush_own (x : Ls) : x.flush.own = x.own ∧ x.flush.peer = x.peer := ⟨rfl, rfl⟩
theorem Ls.send_own (x : Ls) (b : ByteArray) : (x.send b).own = x.own ∧ (x.send b).peer = x.peer := by
  unfold Ls.send
  split <;> exact ⟨rfl, rfl⟩
theorem recvX_own {x y : Ls} {sy : List ByteArray} {t : ByteArray} (h : Frm x y sy t) : (x.recvX t).own = x.own := by
  obtain ⟨k, o, p, q, a, b, rfl, hf, _⟩ := h
  rw [recvX_tx hf]
  exact (takeX_own x k o p q a b).1
theorem eraseIdx_mem {A : List ByteArray} {k : Nat} {t : ByteArray} (h : t ∈ A.eraseIdx k) : t ∈ A := (List.eraseIdx_sublist A k).subset h
theorem getD_mem {A : List ByteArray} {k : Nat} (h : k < A.length) : A.getD k ByteArray.empty ∈ A := by simp [List.getD, List.getElem?_eq_getElem h]

theorem Wld.fl0 {N : Nat} {S : Es} (h : Wld N S) (hN : N + 1000 < 4294967296) : Wld N (S.fl 0) :=
  ⟨h.l0.flush, h.l1, h.n0, h.n1, h.w2, put60_le h.w3, h.s4, h.s5, h.g6, h.g7, h.p0.tells, h.p1.told (flush_frm h.l0 hN h.p0.peer h.a0), h.a0.flush, h.a1⟩
theorem Wld.mv1_0 {N : Nat} {S : Es} (h : Wld N S) (hN : N + 1000 < 4294967296) : Wld N (S.mv1 0) :=
  ⟨h.l0.flush, h.l1, h.n0, h.n1, h.w2, put60_le h.w3, h.s4, h.s5, h.g6, h.g7, h.p0.tells, h.p1.told (tick_frm h.l0 hN h.p0.peer h.a0), h.a0.flush, h.a1⟩
theorem Wld.mv0_0 {N : Nat} {S : Es} (h : Wld N S) (hN : N + 2000 < 900000) (b : ByteArray) : Wld (N + 16) (S.mv0 0 b) := by
  unfold Es.mv0
  refine Wld.fl0 ?_ (by omega)
  have h1 := h.mono (N' := N + 16) (by omega)
  have ho := (S.L 0).send_own b
  have hl : ((S.L 0).send b).Ok (N + 16) := (h.l0.send b).mono (by omega)
  unfold Es.snd
  split
  · rename_i hc
    have hs : (S.ls 4 ++ [b]).length ≤ N + 16 := by have := h.s4; simp only [List.length_append, List.length_cons, List.length_nil]; omega
    exact ⟨hl, h1.l1, (by exact Nat.le_trans (Nat.le_of_eq ho.1) h1.n0), h1.n1, h1.w2, h1.w3, hs, h1.s5, h1.g6, h1.g7, h1.p0.sends b, h1.p1.sent hc, h1.a0.send hc, h1.a1⟩
  · rename_i hc
    have e : (S.L 0).send b = S.L 0 := by rw [Ls.send, if_neg hc]
    rw [e]
    exact ⟨h1.l0, h1.l1, h1.n0, h1.n1, h1.w2, h1.w3, h1.s4, h1.s5, h1.g6, h1.g7, h1.p0, h1.p1, h1.a0, h1.a1⟩
theorem Wld.mv3_0 {N : Nat} {S : Es} (h : Wld N S) (pick : Nat) : Wld N (S.mv3 0 pick) := by
  unfold Es.mv3
  split
  · exact h
  · exact ⟨h.l0, h.l1, h.n0, h.n1, Nat.le_trans (List.eraseIdx_sublist _ _).length_le h.w2, h.w3, h.s4, h.s5, h.g6, h.g7, h.p0.less fun t ht => eraseIdx_mem ht, h.p1, h.a0, h.a1⟩
theorem Wld.mv4_0 {N : Nat} {S : Es} (h : Wld N S) (pick : Nat) : Wld N (S.mv4 0 pick) := by
  unfold Es.mv4
  split
  · exact h
  · rename_i hc
    have hl : (S.ls 2 ++ [(S.ls 2).getD (S.pk 0 pick) ByteArray.empty]).length ≤ 60 := by
      change ¬ ((S.ls 2).length = 0 ∨ 60 ≤ (S.ls 2).length) at hc
      simp only [List.length_append, List.length_cons, List.length_nil]
      omega
    have hm : S.pk 0 pick < (S.ls 2).length := Nat.mod_lt _ (by change ¬ ((S.ls 2).length = 0 ∨ 60 ≤ (S.ls 2).length) at hc; change 0 < (S.ls 2).length; omega)
    exact ⟨h.l0, h.l1, h.n0, h.n1, hl, h.w3, h.s4, h.s5, h.g6, h.g7, h.p0.less fun t ht => (by rcases List.mem_append.1 ht with ht | ht; exact ht; rw [List.mem_singleton.1 ht]; exact getD_mem hm), h.p1, h.a0, h.a1⟩
theorem Wld.mv5_0 {N : Nat} {S : Es} (h : Wld N S) (hN : N + 2000 < 900000) : Wld (N + 16) (S.mv5 0) := by
  have h1 := h.mono (N' := N + 16) (by omega)
  have hn := h.n0
  exact ⟨Ls.Ok.new (Nat.succ_pos _) (by omega) _, h1.l1, (by change (S.L 0).own + 1 ≤ N + 16; omega), h1.n1, h1.w2, h1.w3, Nat.zero_le _, h1.s5, Nat.zero_le _, h1.g7, h1.p0.anew h1.l1.own0, h1.p1.anews, ⟨Nat.le_refl _, rfl⟩, h1.a1⟩
theorem Wld.arr0 {N : Nat} {S : Es} (h : Wld N S) (hN : N + 2000 < 900000) {t : ByteArray} (ht : Frm (S.L 0) (S.L 1) (S.ls 5) t) : Wld (N + 16) (S.arr 0 t) := by
  unfold Es.arr
  refine Wld.fl0 ?_ (by omega)
  have h1 := h.mono (N' := N + 16) (by omega)
  have ho := recvX_own ht
  have hl := h.l0.recvX t
  have hb := Ls.recvB_len h.l0 t
  have px := h.p0.arrives h.p1.peer ht (way' := S.ls 2) (fun _ e => e)
  have py := h.p1.taken ht
  have ax := h.a0.taken ht
  unfold gotOf at px
  unfold sntOf at py ax
  have hno : ((S.L 0).recvX t).own ≤ N + 16 := by rw [ho]; exact h1.n0
  unfold Es.rcv
  split
  · rename_i hp
    rw [if_pos hp] at px py ax
    have hg : (S.ls 6 ++ (S.L 0).recvB t).length ≤ N + 16 := by have := h.g6; rw [List.length_append]; omega
    exact ⟨hl, h1.l1, hno, h1.n1, h1.w2, h1.w3, h1.s4, h1.s5, hg, h1.g7, px, py, ax, h1.a1⟩
  · rename_i hp
    rw [if_neg hp] at px py ax
    have hg : ([] ++ (S.L 0).recvB t).length ≤ N + 16 := by rw [List.length_append, List.length_nil]; omega
    exact ⟨hl, h1.l1, hno, h1.n1, h1.w2, h1.w3, Nat.zero_le _, h1.s5, hg, h1.g7, px, py, ax, h1.a1⟩
theorem Wld.mv2_0 {N : Nat} {S : Es} (h : Wld N S) (hN : N + 2000 < 900000) (pick : Nat) : Wld (N + 16) (S.mv2 0 pick) := by
  unfold Es.mv2
  split
  · exact h.mono (by omega)
  · rename_i hc
    have hm : S.pk 0 pick < (S.ls 2).length := Nat.mod_lt _ (by change ¬ (S.ls 2).length = 0 at hc; change 0 < (S.ls 2).length; omega)
    have h2 : Wld N (S.lst 2 ((S.ls 2).eraseIdx (S.pk 0 pick))) := ⟨h.l0, h.l1, h.n0, h.n1, Nat.le_trans (List.eraseIdx_sublist _ _).length_le h.w2, h.w3, h.s4, h.s5, h.g6, h.g7, h.p0.less fun t ht => eraseIdx_mem ht, h.p1, h.a0, h.a1⟩
    exact h2.arr0 hN (h.p0.way _ (getD_mem hm))

theorem Wld.fl1 {N : Nat} {S : Es} (h : Wld N S) (hN : N + 1000 < 4294967296) : Wld N (S.fl 1) :=
  ⟨h.l0, h.l1.flush, h.n0, h.n1, put60_le h.w2, h.w3, h.s4, h.s5, h.g6, h.g7, h.p0.told (flush_frm h.l1 hN h.p1.peer h.a1), h.p1.tells, h.a0, h.a1.flush⟩
theorem Wld.mv1_1 {N : Nat} {S : Es} (h : Wld N S) (hN : N + 1000 < 4294967296) : Wld N (S.mv1 1) :=
  ⟨h.l0, h.l1.flush, h.n0, h.n1, put60_le h.w2, h.w3, h.s4, h.s5, h.g6, h.g7, h.p0.told (tick_frm h.l1 hN h.p1.peer h.a1), h.p1.tells, h.a0, h.a1.flush⟩
theorem Wld.mv0_1 {N : Nat} {S : Es} (h : Wld N S) (hN : N + 2000 < 900000) (b : ByteArray) : Wld (N + 16) (S.mv0 1 b) := by
  unfold Es.mv0
  refine Wld.fl1 ?_ (by omega)
  have h1 := h.mono (N' := N + 16) (by omega)
  have ho := (S.L 1).send_own b
  have hl : ((S.L 1).send b).Ok (N + 16) := (h.l1.send b).mono (by omega)
  unfold Es.snd
  split
  · rename_i hc
    have hs : (S.ls 5 ++ [b]).length ≤ N + 16 := by have := h.s5; simp only [List.length_append, List.length_cons, List.length_nil]; omega
    exact ⟨h1.l0, hl, h1.n0, (by exact Nat.le_trans (Nat.le_of_eq ho.1) h1.n1), h1.w2, h1.w3, h1.s4, hs, h1.g6, h1.g7, h1.p0.sent hc, h1.p1.sends b, h1.a0, h1.a1.send hc⟩
  · rename_i hc
    have e : (S.L 1).send b = S.L 1 := by rw [Ls.send, if_neg hc]
    rw [e]
    exact ⟨h1.l0, h1.l1, h1.n0, h1.n1, h1.w2, h1.w3, h1.s4, h1.s5, h1.g6, h1.g7, h1.p0, h1.p1, h1.a0, h1.a1⟩
theorem Wld.mv3_1 {N : Nat} {S : Es} (h : Wld N S) (pick : Nat) : Wld N (S.mv3 1 pick) := by
  unfold Es.mv3
  split
  · exact h
  · exact ⟨h.l0, h.l1, h.n0, h.n1, h.w2, Nat.le_trans (List.eraseIdx_sublist _ _).length_le h.w3, h.s4, h.s5, h.g6, h.g7, h.p0, h.p1.less fun t ht => eraseIdx_mem ht, h.a0, h.a1⟩
theorem Wld.mv4_1 {N : Nat} {S : Es} (h : Wld N S) (pick : Nat) : Wld N (S.mv4 1 pick) := by
  unfold Es.mv4
  split
  · exact h
  · rename_i hc
    have hl : (S.ls 3 ++ [(S.ls 3).getD (S.pk 1 pick) ByteArray.empty]).length ≤ 60 := by
      change ¬ ((S.ls 3).length = 0 ∨ 60 ≤ (S.ls 3).length) at hc
      simp only [List.length_append, List.length_cons, List.length_nil]
      omega
    have hm : S.pk 1 pick < (S.ls 3).length := Nat.mod_lt _ (by change ¬ ((S.ls 3).length = 0 ∨ 60 ≤ (S.ls 3).length) at hc; change 0 < (S.ls 3).length; omega)
    exact ⟨h.l0, h.l1, h.n0, h.n1, h.w2, hl, h.s4, h.s5, h.g6, h.g7, h.p0, h.p1.less fun t ht => (by rcases List.mem_append.1 ht with ht | ht; exact ht; rw [List.mem_singleton.1 ht]; exact getD_mem hm), h.a0, h.a1⟩
theorem Wld.mv5_1 {N : Nat} {S : Es} (h : Wld N S) (hN : N + 2000 < 900000) : Wld (N + 16) (S.mv5 1) := by
  have h1 := h.mono (N' := N + 16) (by omega)
  have hn := h.n1
  exact ⟨h1.l0, Ls.Ok.new (Nat.succ_pos _) (by omega) _, h1.n0, (by change (S.L 1).own + 1 ≤ N + 16; omega), h1.w2, h1.w3, h1.s4, Nat.zero_le _, h1.g6, Nat.zero_le _, h1.p0.anews, h1.p1.anew h1.l0.own0, h1.a0, ⟨Nat.le_refl _, rfl⟩⟩
theorem Wld.arr1 {N : Nat} {S : Es} (h : Wld N S) (hN : N + 2000 < 900000) {t : ByteArray} (ht : Frm (S.L 1) (S.L 0) (S.ls 4) t) : Wld (N + 16) (S.arr 1 t) := by
  unfold Es.arr
  refine Wld.fl1 ?_ (by omega)
  have h1 := h.mono (N' := N + 16) (by omega)
  have ho := recvX_own ht
  have hl := h.l1.recvX t
  have hb := Ls.recvB_len h.l1 t
  have px := h.p1.arrives h.p0.peer ht (way' := S.ls 3) (fun _ e => e)
  have py := h.p0.taken ht
  have ax := h.a1.taken ht
  unfold gotOf at px
  unfold sntOf at py ax
  have hno : ((S.L 1).recvX t).own ≤ N + 16 := by rw [ho]; exact h1.n1
  unfold Es.rcv
  split
  · rename_i hp
    rw [if_pos hp] at px py ax
    have hg : (S.ls 7 ++ (S.L 1).recvB t).length ≤ N + 16 := by have := h.g7; rw [List.length_append]; omega
    exact ⟨h1.l0, hl, h1.n0, hno, h1.w2, h1.w3, h1.s4, h1.s5, h1.g6, hg, py, px, h1.a0, ax⟩
  · rename_i hp
    rw [if_neg hp] at px py ax
    have hg : ([] ++ (S.L 1).recvB t).length ≤ N + 16 := by rw [List.length_append, List.length_nil]; omega
    exact ⟨h1.l0, hl, h1.n0, hno, h1.w2, h1.w3, h1.s4, Nat.zero_le _, h1.g6, hg, py, px, h1.a0, ax⟩
theorem Wld.mv2_1 {N : Nat} {S : Es} (h : Wld N S) (hN : N + 2000 < 900000) (pick : Nat) : Wld (N + 16) (S.mv2 1 pick) := by
  unfold Es.mv2
  split
  · exact h.mono (by omega)
  · rename_i hc
    have hm : S.pk 1 pick < (S.ls 3).length := Nat.mod_lt _ (by change ¬ (S.ls 3).length = 0 at hc; change 0 < (S.ls 3).length; omega)
    have h2 : Wld N (S.lst 3 ((S.ls 3).eraseIdx (S.pk 1 pick))) := ⟨h.l0, h.l1, h.n0, h.n1, h.w2, Nat.le_trans (List.eraseIdx_sublist _ _).length_le h.w3, h.s4, h.s5, h.g6, h.g7, h.p0, h.p1.less fun t ht => eraseIdx_mem ht, h.a0, h.a1⟩
    exact h2.arr1 hN (h.p1.way _ (getD_mem hm))

end Go.Proofs.Ytcadlcpccemkbaa

namespace Go.Proofs.Ytcadlcpccemkbaa
open Go.RowKit
set_option maxRecDepth 100000
attribute [local go_sem] not_any

theorem drew_rdl {w : World} {v : Value} {A : List ByteArray} (h : Rdl w v A) : Rdl w.drew v A := h

set_option maxHeartbeats 1000000 in
theorem texts_any {w : World} {u v : Value} {A : List ByteArray} (h : Rdl w u A) (h' : Rdl w v A) (hA : A.length ≤ 1000000) :
    Calls Try.prog 11 #[u, v] w fun e w' => e = .returned (.bool true) ∧ Below w.heap.size w w' := by
  have hU := fun w' (hb : Below w.heap.size w w') => h.below hb (Nat.le_refl _)
  have hV := fun w' (hb : Below w.heap.size w w') => h'.below hb (Nat.le_refl _)
  have HU := hide1 hU
  have HV := hide1 hV
  obtain ⟨a, c, rfl, _⟩ := h
  obtain ⟨a', c', rfl, _⟩ := h'
  obtain ⟨n, hn⟩ : ∃ n, A.length = n := ⟨_, rfl⟩
  have HN := hide1 hn
  rw [hn] at HU HV hA ⊢
  clear hU hV hn
  go_enter Try.func11, Try.ntmps11
  go_wp2_with fail
  go_loopw [5] (fun v wr => ∃ j : Nat, j ≤ n ∧ v = .int .i64 (j : Int) ∧ Below w.heap.size w wr) (fun v _ => n - (intOf v).toNat)
  case atStart => exact ⟨0, Nat.zero_le _, rfl, Below.refl _ _⟩
  case round =>
    obtain ⟨j, hj, rfl, hB⟩ := hrel
    have HB := hide1 hB
    by_cases hjn : j < n
    · have gin : (j : Int) < (n : Int) := by omega
      have hjA : j < A.length := by have := HN.out; omega
      obtain ⟨b, d, e1, h1⟩ := HU.out wr hB
      obtain ⟨b', d', e2, h2⟩ := HV.out wr hB
      rw [HN.out] at e1 e2
      cases e1
      cases e2
      obtain ⟨g1, o1, rfl, k1⟩ := h1 j hjA
      obtain ⟨g2, o2, rfl, k2⟩ := h2 j hjA
      obtain ⟨m1, hm1⟩ : ∃ m, o1 + j = m := ⟨_, rfl⟩
      obtain ⟨m2, hm2⟩ : ∃ m, o2 + j = m := ⟨_, rfl⟩
      rw [hm1] at k1
      rw [hm2] at k2
      generalize A.getD j ByteArray.empty = s at *
      have K1 := hide1 k1
      have K2 := hide1 k2
      clear h1 h2 hB k1 k2
      go_upto_region 6 with (fail)
      refine region_f (F := []) (S := fun W => W.cell? ⟨g1, m1, none⟩ = some (.string s) ∧ W.cell? ⟨g2, m2, none⟩ = some (.string s)) (by kernel_rfl) ⟨K1.out, K2.out⟩ (fun hS => ?_)
      refine take_p 0 17 (.slice (some ⟨g1, o1, none⟩) n c) rfl rfl (by kernel_rfl) (by kernel_rfl) (by kernel_rfl) (fun _ _ _ h => h) rfl (fun w => by go_simp) ?_
      try simp only [List.setIfInBounds_toArray, List.set_cons_zero, List.set_cons_succ]
      refine take_p 1 18 (.int .i64 (j : Int)) rfl rfl (by kernel_rfl) (by kernel_rfl) (by kernel_rfl) (fun _ _ _ h => h) rfl (fun w => by go_simp) ?_
      try simp only [List.setIfInBounds_toArray, List.set_cons_zero, List.set_cons_succ]
      refine take_p 2 19 (.pointer (some ⟨g1, m1, none⟩)) rfl rfl (by kernel_rfl) (by kernel_rfl) (by kernel_rfl) (fun _ _ _ h => h) rfl (fun w => by go_simp) ?_
      try simp only [List.setIfInBounds_toArray, List.set_cons_zero, List.set_cons_succ]
      refine take_f 3 20 (.string s) [8] rfl rfl (by kernel_rfl) (by kernel_rfl) (by kernel_rfl) (by kernel_rfl) (by kernel_rfl) (by kernel_rfl) (fun _ _ _ h => h) rfl (fun w hSw => by obtain ⟨g0, g1⟩ := hSw; go_simp) hS ?_
      try simp only [List.setIfInBounds_toArray, List.set_cons_zero, List.set_cons_succ]
      refine take_p 4 21 (.slice (some ⟨g2, o2, none⟩) n c') rfl rfl (by kernel_rfl) (by kernel_rfl) (by kernel_rfl) (fun _ _ _ h => h) rfl (fun w => by go_simp) ?_
      try simp only [List.setIfInBounds_toArray, List.set_cons_zero, List.set_cons_succ]
      refine take_p 5 22 (.int .i64 (j : Int)) rfl rfl (by kernel_rfl) (by kernel_rfl) (by kernel_rfl) (fun _ _ _ h => h) rfl (fun w => by go_simp) ?_
      try simp only [List.setIfInBounds_toArray, List.set_cons_zero, List.set_cons_succ]
      refine take_p 6 23 (.pointer (some ⟨g2, m2, none⟩)) rfl rfl (by kernel_rfl) (by kernel_rfl) (by kernel_rfl) (fun _ _ _ h => h) rfl (fun w => by go_simp) ?_
      try simp only [List.setIfInBounds_toArray, List.set_cons_zero, List.set_cons_succ]
      refine take_f 7 24 (.string s) [8] rfl rfl (by kernel_rfl) (by kernel_rfl) (by kernel_rfl) (by kernel_rfl) (by kernel_rfl) (by kernel_rfl) (fun _ _ _ h => h) rfl (fun w hSw => by obtain ⟨g0, g1⟩ := hSw; go_simp) hS ?_
      try simp only [List.setIfInBounds_toArray, List.set_cons_zero, List.set_cons_succ]
      refine take_p 8 25 (.bool false) rfl rfl (by kernel_rfl) (by kernel_rfl) (by kernel_rfl) (fun _ _ _ h => h) rfl (fun w => by go_simp) ?_
      try simp only [List.setIfInBounds_toArray, List.set_cons_zero, List.set_cons_succ]
      refine done_f (by kernel_rfl) ?_ _
      clear hS
      go_wp2
      go_roundw
      case rel => exact ⟨j + 1, by omega, by go_num, HB.out.drew⟩
      case measure => simp [intOf]; omega
    · have gin : ¬ (j : Int) < (n : Int) := by omega
      clear hB
      go_wp2
      go_ret
      exact ⟨rfl, HB.out⟩

end Go.Proofs.Ytcadlcpccemkbaa
