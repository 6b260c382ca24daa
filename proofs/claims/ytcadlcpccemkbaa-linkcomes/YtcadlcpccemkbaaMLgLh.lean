/- Pure: what both know of each other's numbers is kept by every move. Pure: rounds between two ends. -/
import Derived.Test.YtcadlcpccemkbaaLf
namespace Go.Proofs.Ytcadlcpccemkbaa
set_option maxRecDepth 100000

structure Wm (N : Nat) (S : Es) : Prop where
  w : Wld N S
  m0 : Mu (S.L 0) (S.L 1) (S.ls 2)
  m1 : Mu (S.L 1) (S.L 0) (S.ls 3)
theorem Wm.mono {N N' : Nat} {S : Es} (h : Wm N S) (hn : N ≤ N') : Wm N' S := ⟨h.w.mono hn, h.m0, h.m1⟩
theorem Wm.gm {N : Nat} {S : Es} (h : Wm N S) : Gm N (S.L 0) (S.L 1) (S.ls 2) (S.ls 3) := by
  refine ⟨h.w.l0, h.w.l1, h.m0, h.m1, h.w.p0.peer, h.w.p1.peer, fun e1 e2 => ?_, fun e1 e2 => ?_⟩
  · rcases h.w.p0.got e1 with ⟨g, _⟩ | ⟨_, _, g⟩
    · exact absurd g e2
    · exact g
  · rcases h.w.p1.got e1 with ⟨g, _⟩ | ⟨_, _, g⟩
    · exact absurd g e2
    · exact g

theorem Wm.mv1_0 {N : Nat} {S : Es} (h : Wm N S) (hN : N + 1000 < 4294967296) : Wm N (S.mv1 0) := by
  have a : Mu (S.L 0).flush (S.L 1) (S.ls 2) := h.m0.tells
  have b : Mu (S.L 1) (S.L 0).flush (put60 (S.ls 3) (S.L 0).tickF) := h.m1.told h.w.l0 fun t ht => tick_fn (P := Any) h.w.l0 hN h.w.p0.peer (fun _ _ => trivial) t ht
  exact ⟨h.w.mv1_0 hN, a, b⟩
theorem Wm.mv0_0 {N : Nat} {S : Es} (h : Wm N S) (hN : N + 2000 < 900000) (c : ByteArray) : Wm (N + 16) (S.mv0 0 c) := by
  have hO := h.w.l0.send c
  obtain ⟨e1, e2, _⟩ := send_same (S.L 0) c
  have a : Mu ((S.L 0).send c).flush (S.L 1) (S.ls 2) := (h.m0.sends c).tells
  have b : Mu (S.L 1) ((S.L 0).send c).flush (put60 (S.ls 3) ((S.L 0).send c).flushF) := (h.m1.sent c).told hO fun t ht => flush_fn (P := Any) hO (by omega) (by rw [e2]; exact h.w.p0.peer) (fun _ _ => trivial) t ht
  have w := h.w.mv0_0 hN c
  unfold Es.mv0 Es.snd at w ⊢
  split at w
  · rename_i hc
    rw [if_pos hc]
    exact ⟨w, a, b⟩
  · rename_i hc
    rw [if_neg hc]
    exact ⟨w, a, b⟩
theorem Wm.mv3_0 {N : Nat} {S : Es} (h : Wm N S) (pick : Nat) : Wm N (S.mv3 0 pick) := by
  have w := h.w.mv3_0 pick
  unfold Es.mv3 at w ⊢
  split at w
  · rename_i hc
    rw [if_pos hc]
    exact h
  · rename_i hc
    rw [if_neg hc]
    have a : Mu (S.L 0) (S.L 1) ((S.ls 2).eraseIdx (S.pk 0 pick)) := h.m0.less fun t ht => eraseIdx_mem ht
    exact ⟨w, a, h.m1⟩
theorem Wm.mv4_0 {N : Nat} {S : Es} (h : Wm N S) (pick : Nat) : Wm N (S.mv4 0 pick) := by
  have w := h.w.mv4_0 pick
  unfold Es.mv4 at w ⊢
  split at w
  · rename_i hc
    rw [if_pos hc]
    exact h
  · rename_i hc
    rw [if_neg hc]
    have hm : S.pk 0 pick < (S.ls 2).length := Nat.mod_lt _ (by change ¬ ((S.ls 2).length = 0 ∨ 60 ≤ (S.ls 2).length) at hc; change 0 < (S.ls 2).length; omega)
    have a : Mu (S.L 0) (S.L 1) (S.ls 2 ++ [(S.ls 2).getD (S.pk 0 pick) ByteArray.empty]) := h.m0.less fun t ht => (by rcases List.mem_append.1 ht with ht | ht; exact ht; rw [List.mem_singleton.1 ht]; exact getD_mem hm)
    exact ⟨w, a, h.m1⟩
theorem Wm.mv5_0 {N : Nat} {S : Es} (h : Wm N S) (hN : N + 2000 < 900000) : Wm (N + 16) (S.mv5 0) := by
  have a : Mu (Ls.new ((S.L 0).own + 1)) (S.L 1) (S.ls 2) := h.m0.anew h.w.p1.peer
  have b : Mu (S.L 1) (Ls.new ((S.L 0).own + 1)) (S.ls 3) := h.m1.anews h.w.p1.peer
  exact ⟨h.w.mv5_0 hN, a, b⟩
theorem Wm.mv2_0 {N : Nat} {S : Es} (h : Wm N S) (hN : N + 2000 < 900000) (pick : Nat) : Wm (N + 16) (S.mv2 0 pick) := by
  have w := h.w.mv2_0 hN pick
  unfold Es.mv2 at w ⊢
  split at w
  · rename_i hc
    rw [if_pos hc]
    exact h.mono (by omega)
  · rename_i hc
    rw [if_neg hc]
    have hm : S.pk 0 pick < (S.ls 2).length := Nat.mod_lt _ (by change ¬ (S.ls 2).length = 0 at hc; change 0 < (S.ls 2).length; omega)
    change Wld (N + 16) ((S.lst 2 ((S.ls 2).eraseIdx (S.pk 0 pick))).arr 0 ((S.ls 2).getD (S.pk 0 pick) ByteArray.empty)) at w
    show Wm (N + 16) ((S.lst 2 ((S.ls 2).eraseIdx (S.pk 0 pick))).arr 0 ((S.ls 2).getD (S.pk 0 pick) ByteArray.empty))
    have ht := h.m0.frm _ (getD_mem hm)
    generalize (S.ls 2).getD (S.pk 0 pick) ByteArray.empty = t at *
    have hO := h.w.l0.recvX t
    have e := recv_own h.gm ht
    have a : Mu ((S.L 0).recvX t).flush (S.L 1) ((S.ls 2).eraseIdx (S.pk 0 pick)) := ((h.m0.less fun t ht => eraseIdx_mem ht).arrives (fun e => (h.w.l1.ns e).2.2) h.w.p1.peer ht).tells
    have b : Mu (S.L 1) ((S.L 0).recvX t).flush (put60 (S.ls 3) ((S.L 0).recvX t).flushF) := (h.m1.taken h.w.p1.peer h.gm.zy ht).told hO fun s hs => flush_fn (P := Any) hO (by omega) e.2.1 (fun _ _ => trivial) s hs
    unfold Es.arr Es.rcv at w ⊢
    split at w
    · rename_i hp
      rw [if_pos hp]
      exact ⟨w, a, b⟩
    · rename_i hp
      rw [if_neg hp]
      exact ⟨w, a, b⟩

theorem Wm.mv1_1 {N : Nat} {S : Es} (h : Wm N S) (hN : N + 1000 < 4294967296) : Wm N (S.mv1 1) := by
  have a : Mu (S.L 1).flush (S.L 0) (S.ls 3) := h.m1.tells
  have b : Mu (S.L 0) (S.L 1).flush (put60 (S.ls 2) (S.L 1).tickF) := h.m0.told h.w.l1 fun t ht => tick_fn (P := Any) h.w.l1 hN h.w.p1.peer (fun _ _ => trivial) t ht
  exact ⟨h.w.mv1_1 hN, b, a⟩
theorem Wm.mv0_1 {N : Nat} {S : Es} (h : Wm N S) (hN : N + 2000 < 900000) (c : ByteArray) : Wm (N + 16) (S.mv0 1 c) := by
  have hO := h.w.l1.send c
  obtain ⟨e1, e2, _⟩ := send_same (S.L 1) c
  have a : Mu ((S.L 1).send c).flush (S.L 0) (S.ls 3) := (h.m1.sends c).tells
  have b : Mu (S.L 0) ((S.L 1).send c).flush (put60 (S.ls 2) ((S.L 1).send c).flushF) := (h.m0.sent c).told hO fun t ht => flush_fn (P := Any) hO (by omega) (by rw [e2]; exact h.w.p1.peer) (fun _ _ => trivial) t ht
  have w := h.w.mv0_1 hN c
  unfold Es.mv0 Es.snd at w ⊢
  split at w
  · rename_i hc
    rw [if_pos hc]
    exact ⟨w, b, a⟩
  · rename_i hc
    rw [if_neg hc]
    exact ⟨w, b, a⟩
theorem Wm.mv3_1 {N : Nat} {S : Es} (h : Wm N S) (pick : Nat) : Wm N (S.mv3 1 pick) := by
  have w := h.w.mv3_1 pick
  unfold Es.mv3 at w ⊢
  split at w
  · rename_i hc
    rw [if_pos hc]
    exact h
  · rename_i hc
    rw [if_neg hc]
    have a : Mu (S.L 1) (S.L 0) ((S.ls 3).eraseIdx (S.pk 1 pick)) := h.m1.less fun t ht => eraseIdx_mem ht
    exact ⟨w, h.m0, a⟩
theorem Wm.mv4_1 {N : Nat} {S : Es} (h : Wm N S) (pick : Nat) : Wm N (S.mv4 1 pick) := by
  have w := h.w.mv4_1 pick
  unfold Es.mv4 at w ⊢
  split at w
  · rename_i hc
    rw [if_pos hc]
    exact h
  · rename_i hc
    rw [if_neg hc]
    have hm : S.pk 1 pick < (S.ls 3).length := Nat.mod_lt _ (by change ¬ ((S.ls 3).length = 0 ∨ 60 ≤ (S.ls 3).length) at hc; change 0 < (S.ls 3).length; omega)
    have a : Mu (S.L 1) (S.L 0) (S.ls 3 ++ [(S.ls 3).getD (S.pk 1 pick) ByteArray.empty]) := h.m1.less fun t ht => (by rcases List.mem_append.1 ht with ht | ht; exact ht; rw [List.mem_singleton.1 ht]; exact getD_mem hm)
    exact ⟨w, h.m0, a⟩
theorem Wm.mv5_1 {N : Nat} {S : Es} (h : Wm N S) (hN : N + 2000 < 900000) : Wm (N + 16) (S.mv5 1) := by
  have a : Mu (Ls.new ((S.L 1).own + 1)) (S.L 0) (S.ls 3) := h.m1.anew h.w.p0.peer
  have b : Mu (S.L 0) (Ls.new ((S.L 1).own + 1)) (S.ls 2) := h.m0.anews h.w.p0.peer
  exact ⟨h.w.mv5_1 hN, b, a⟩
theorem Wm.mv2_1 {N : Nat} {S : Es} (h : Wm N S) (hN : N + 2000 < 900000) (pick : Nat) : Wm (N + 16) (S.mv2 1 pick) := by
  have w := h.w.mv2_1 hN pick
  unfold Es.mv2 at w ⊢
  split at w
  · rename_i hc
    rw [if_pos hc]
    exact h.mono (by omega)
  · rename_i hc
    rw [if_neg hc]
    have hm : S.pk 1 pick < (S.ls 3).length := Nat.mod_lt _ (by change ¬ (S.ls 3).length = 0 at hc; change 0 < (S.ls 3).length; omega)
    change Wld (N + 16) ((S.lst 3 ((S.ls 3).eraseIdx (S.pk 1 pick))).arr 1 ((S.ls 3).getD (S.pk 1 pick) ByteArray.empty)) at w
    show Wm (N + 16) ((S.lst 3 ((S.ls 3).eraseIdx (S.pk 1 pick))).arr 1 ((S.ls 3).getD (S.pk 1 pick) ByteArray.empty))
    have ht := h.m1.frm _ (getD_mem hm)
    generalize (S.ls 3).getD (S.pk 1 pick) ByteArray.empty = t at *
    have hO := h.w.l1.recvX t
    have e := recv_own h.gm.symm ht
    have a : Mu ((S.L 1).recvX t).flush (S.L 0) ((S.ls 3).eraseIdx (S.pk 1 pick)) := ((h.m1.less fun t ht => eraseIdx_mem ht).arrives (fun e => (h.w.l0.ns e).2.2) h.w.p0.peer ht).tells
    have b : Mu (S.L 0) ((S.L 1).recvX t).flush (put60 (S.ls 2) ((S.L 1).recvX t).flushF) := (h.m0.taken h.w.p0.peer h.gm.zx ht).told hO fun s hs => flush_fn (P := Any) hO (by omega) e.2.1 (fun _ _ => trivial) s hs
    unfold Es.arr Es.rcv at w ⊢
    split at w
    · rename_i hp
      rw [if_pos hp]
      exact ⟨w, b, a⟩
    · rename_i hp
      rw [if_neg hp]
      exact ⟨w, b, a⟩

end Go.Proofs.Ytcadlcpccemkbaa

namespace Go.Proofs.Ytcadlcpccemkbaa
set_option maxRecDepth 100000

def it (W : Nat) : Nat → Es → Es
  | 0, S => S
  | n + 1, S => it W n (S.mv2 W 0)
theorem step_0 {S : Es} {t : ByteArray} {I : List ByteArray} (h : S.ls 2 = t :: I) : (S.mv2 0 0).L 0 = ((S.L 0).recvX t).flush ∧ (S.mv2 0 0).L 1 = S.L 1 ∧ (S.mv2 0 0).ls 2 = I ∧ (S.mv2 0 0).ls 3 = put60 (S.ls 3) ((S.L 0).recvX t).flushF := by
  have hl : ¬ (S.ls (2 + 0)).length = 0 := by change ¬ (S.ls 2).length = 0; rw [h]; simp
  have hp : S.pk 0 0 = 0 := Nat.zero_mod _
  have e : S.mv2 0 0 = (S.lst 2 I).arr 0 t := by
    rw [Es.mv2, if_neg hl, hp]
    change (S.lst 2 ((S.ls 2).eraseIdx 0)).arr 0 ((S.ls 2).getD 0 ByteArray.empty) = _
    rw [h]
    rfl
  rw [e]
  unfold Es.arr Es.rcv
  split <;> exact ⟨rfl, rfl, rfl, rfl⟩
theorem step_1 {S : Es} {t : ByteArray} {I : List ByteArray} (h : S.ls 3 = t :: I) : (S.mv2 1 0).L 1 = ((S.L 1).recvX t).flush ∧ (S.mv2 1 0).L 0 = S.L 0 ∧ (S.mv2 1 0).ls 3 = I ∧ (S.mv2 1 0).ls 2 = put60 (S.ls 2) ((S.L 1).recvX t).flushF := by
  have hl : ¬ (S.ls (2 + 1)).length = 0 := by change ¬ (S.ls 3).length = 0; rw [h]; simp
  have hp : S.pk 1 0 = 0 := Nat.zero_mod _
  have e : S.mv2 1 0 = (S.lst 3 I).arr 1 t := by
    rw [Es.mv2, if_neg hl, hp]
    change (S.lst 3 ((S.ls 3).eraseIdx 0)).arr 1 ((S.ls 3).getD 0 ByteArray.empty) = _
    rw [h]
    rfl
  rw [e]
  unfold Es.arr Es.rcv
  split <;> exact ⟨rfl, rfl, rfl, rfl⟩
theorem it_0 : ∀ (I : List ByteArray) (S : Es), S.ls 2 = I → (it 0 I.length S).L 0 = (pro (S.L 0) (S.ls 3) I).1 ∧ (it 0 I.length S).ls 3 = (pro (S.L 0) (S.ls 3) I).2 ∧ (it 0 I.length S).L 1 = S.L 1 ∧ (it 0 I.length S).ls 2 = []
  | [], S, h => ⟨rfl, rfl, rfl, h⟩
  | t :: I, S, h => by
    obtain ⟨e1, e2, e3, e4⟩ := step_0 h
    obtain ⟨i1, i2, i3, i4⟩ := it_0 I (S.mv2 0 0) e3
    rw [e1, e4] at i1 i2
    exact ⟨i1, i2, i3.trans e2, i4⟩
theorem it_1 : ∀ (I : List ByteArray) (S : Es), S.ls 3 = I → (it 1 I.length S).L 1 = (pro (S.L 1) (S.ls 2) I).1 ∧ (it 1 I.length S).ls 2 = (pro (S.L 1) (S.ls 2) I).2 ∧ (it 1 I.length S).L 0 = S.L 0 ∧ (it 1 I.length S).ls 3 = []
  | [], S, h => ⟨rfl, rfl, rfl, h⟩
  | t :: I, S, h => by
    obtain ⟨e1, e2, e3, e4⟩ := step_1 h
    obtain ⟨i1, i2, i3, i4⟩ := it_1 I (S.mv2 1 0) e3
    rw [e1, e4] at i1 i2
    exact ⟨i1, i2, i3.trans e2, i4⟩
/- half a round, a round -/
def hf (W : Nat) (S : Es) : Es := (it W (S.ls (2 + W)).length S).mv1 W
def rdS (S : Es) : Es := hf 1 (hf 0 S)
def tri (S : Es) : Ls × Ls × List ByteArray := (S.L 0, S.L 1, S.ls 2)
theorem rdS_first (S : Es) : tri (rdS S) = first (S.L 0) (S.L 1) (S.ls 2) (S.ls 3) ∧ (rdS S).ls 3 = [] := by
  obtain ⟨a1, a2, a3, a4⟩ := it_0 (S.ls 2) S rfl
  have b1 : (hf 0 S).L 0 = (pro (S.L 0) (S.ls 3) (S.ls 2)).1.flush := by rw [← a1]; rfl
  have b2 : (hf 0 S).ls 3 = put60 (pro (S.L 0) (S.ls 3) (S.ls 2)).2 (pro (S.L 0) (S.ls 3) (S.ls 2)).1.tickF := by rw [← a1, ← a2]; rfl
  have b3 : (hf 0 S).L 1 = S.L 1 := a3
  have b4 : (hf 0 S).ls 2 = [] := a4
  rw [show rdS S = hf 1 (hf 0 S) from rfl]
  generalize hf 0 S = T at *
  obtain ⟨c1, c2, c3, c4⟩ := it_1 (T.ls 3) T rfl
  have d1 : (hf 1 T).L 1 = (pro (T.L 1) (T.ls 2) (T.ls 3)).1.flush := by rw [← c1]; rfl
  have d2 : (hf 1 T).ls 2 = put60 (pro (T.L 1) (T.ls 2) (T.ls 3)).2 (pro (T.L 1) (T.ls 2) (T.ls 3)).1.tickF := by rw [← c1, ← c2]; rfl
  have d3 : (hf 1 T).L 0 = T.L 0 := c3
  have d4 : (hf 1 T).ls 3 = [] := c4
  refine ⟨?_, d4⟩
  show ((hf 1 T).L 0, (hf 1 T).L 1, (hf 1 T).ls 2) = _
  rw [d1, d2, d3, b1, b3, b4, b2]
  rfl
def rds : Nat → Es → Es
  | 0, S => S
  | n + 1, S => rds n (rdS S)
theorem rds_tri : ∀ (n : Nat) (S : Es), S.ls 3 = [] → tri (rds n S) = rn n (tri S)
  | 0, _, _ => rfl
  | n + 1, S, h => by
    obtain ⟨e1, e2⟩ := rdS_first S
    rw [h] at e1
    have := rds_tri n (rdS S) e2
    rw [e1] at this
    exact this
/- behind forty rounds all came -/
structure Dn (S : Es) : Prop where
  s0 : (S.L 0).sure = true
  s1 : (S.L 1).sure = true
  w0 : (S.L 0).waiting = 0
  w1 : (S.L 1).waiting = 0
  g0 : S.ls 6 = S.ls 5
  g1 : S.ls 7 = S.ls 4
theorem all_come {sy gx : List ByteArray} {x y : Ls} {way : List ByteArray} (hp : Pr x y way sy gx) (hs : Sn y sy) (h1 : x.peer = y.own) (h2 : y.peer = x.own) (hk : y.k ≤ x.a) (ht : tot y = 0) : gx = sy := by
  unfold tot at ht
  have hA : y.A = [] := List.eq_nil_of_length_eq_zero (by omega)
  have hQ : y.Q = [] := List.eq_nil_of_length_eq_zero (by omega)
  have e := congrArg List.length hs.eq
  rw [hA, hQ, List.length_drop] at e
  simp at e
  rcases hp.got h1 with ⟨_, g, _⟩ | ⟨g, _⟩
  · rw [g]
    exact List.take_of_length_le (by omega)
  · exact absurd h2 g
theorem done {N N' : Nat} {S : Es} (h : Wm N S) (hN : N + 200000 < 4294967296) (hF : Wm N' (rds 40 S)) : Dn (rds 40 S) := by
  obtain ⟨x, y, I, e, b, t1, t2⟩ := forty h.gm hN h.w.w2 h.w.w3
  obtain ⟨r1, r2⟩ := rdS_first S
  have r3 := rds_tri 39 (rdS S) r2
  rw [r1, e] at r3
  change tri (rds 40 S) = _ at r3
  generalize rds 40 S = T at *
  have q0 : T.L 0 = x := congrArg (fun z => z.1) r3
  have q1 : T.L 1 = y := congrArg (fun z => z.2.1) r3
  have w := hF.w
  have p0 := w.p0
  have p1 := w.p1
  have a0 := w.a0
  have a1 := w.a1
  have m0 := hF.m0.num
  have m1 := hF.m1.num
  rw [q0, q1] at p0 p1 m0 m1
  rw [q0] at a0
  rw [q1] at a1
  have g := b.g
  refine ⟨by rw [q0]; exact g.sx, by rw [q1]; exact g.sy, ?_, ?_, all_come p0 a1 g.px g.py (m0 g.px g.py).1 t2, all_come p1 a0 g.py g.px (m1 g.py g.px).1 t1⟩
  · rw [q0, Ls.waiting]
    unfold tot at t1
    omega
  · rw [q1, Ls.waiting]
    unfold tot at t2
    omega

end Go.Proofs.Ytcadlcpccemkbaa
