/- What an end keeps to; frames that are read as they were written. -/
import Derived.Test.YtcadlcpccemkbaaJw
namespace Go.Proofs.Ytcadlcpccemkbaa
open Go.RowKit
set_option maxRecDepth 100000

theorem Ls.Ok.mono {N N' : Nat} {x : Ls} (h : x.Ok N) (hn : N ≤ N') : x.Ok N' :=
  ⟨h.own0, h.own, h.peer, h.hd, h.A16, h.Q64, h.ns, h.sp, h.szA, h.szQ, by have := h.kN; omega, by have := h.aN; omega⟩
theorem Ls.Ok.new {own : Nat} (h0 : 0 < own) (h : own < 4294967296) (N : Nat) : (Ls.new own).Ok N :=
  ⟨h0, h, by simp [Ls.new], Hd.none _, by simp [Ls.new], by simp [Ls.new], fun _ => ⟨rfl, rfl, rfl⟩, fun e => (by cases e), by simp [Ls.new], by simp [Ls.new], by simp [Ls.new], by simp [Ls.new]⟩
theorem Ls.send_ok {x : Ls} {b : ByteArray} (h : x.sendC b = 0) : x.sure = true ∧ b.size ≤ 65536 ∧ x.Q.length < 64 := by
  unfold Ls.sendC at h
  split at h
  · cases h
  · rename_i h1
    split at h
    · cases h
    · split at h
      · cases h
      · exact ⟨by simpa using h1, by omega, by omega⟩
theorem Ls.Ok.send {N : Nat} {x : Ls} (h : x.Ok N) (b : ByteArray) : (x.send b).Ok (N + 1) := by
  unfold Ls.send
  by_cases hc : x.sendC b = 0
  · obtain ⟨h1, h2, h3⟩ := Ls.send_ok hc
    rw [if_pos hc]
    refine ⟨h.own0, h.own, h.peer, h.hd, h.A16, ?_, fun e => ?_, h.sp, h.szA, fun c hc => ?_, ?_, by have := h.aN; simp only; omega⟩
    · simp only [List.length_append, List.length_cons, List.length_nil]
      omega
    · change x.sure = false at e
      rw [h1] at e
      cases e
    · rcases List.mem_append.1 hc with hc | hc
      · exact h.szQ c hc
      · rw [List.mem_singleton.1 hc]
        omega
    · have := h.kN
      simp only [List.length_append, List.length_cons, List.length_nil]
      omega
  · rw [if_neg hc]
    exact h.mono (by omega)
theorem Ls.Ok.flush {N : Nat} {x : Ls} (h : x.Ok N) : x.flush.Ok N := h.mv.owed false
theorem ack_len {k : Nat} {A : List ByteArray} (a : Nat) : akK k A a + (akL k A a).length = k + A.length := by
  unfold akK akL
  by_cases hc : akC k A a = 0
  · rw [if_pos hc, if_pos hc, List.length_drop]
    unfold akC at hc
    split at hc
    · cases hc
    · omega
  · rw [if_neg hc, if_neg hc]
theorem akL_mem {k : Nat} {A : List ByteArray} {a : Nat} {b : ByteArray} (h : b ∈ akL k A a) : b ∈ A := by
  unfold akL at h
  split at h
  · exact List.mem_of_mem_drop h
  · exact h
theorem akL_le {k : Nat} {A : List ByteArray} (a : Nat) : (akL k A a).length ≤ A.length := by
  unfold akL
  split
  · rw [List.length_drop]; omega
  · exact Nat.le_refl _
theorem Ls.Ok.acked {N : Nat} {x : Ls} (h : x.Ok N) (hs : x.sure = true) (a : Nat) : (x.acked a).Ok N := by
  refine ⟨h.own0, h.own, h.peer, h.hd, ?_, h.Q64, fun e => ?_, h.sp, fun b hb => h.szA b (akL_mem hb), h.szQ, ?_, h.aN⟩
  · have := akL_le (k := x.k) (A := x.A) a
    have := h.A16
    change (akL x.k x.A a).length ≤ 16
    omega
  · change x.sure = false at e
    rw [hs] at e
    cases e
  · have e := ack_len (k := x.k) (A := x.A) a
    have := h.kN
    change akK x.k x.A a + (akL x.k x.A a).length + x.Q.length ≤ N
    omega
theorem Ls.Ok.openX {N : Nat} {x : Ls} (h : x.Ok N) (hs : x.sure = true) (k q a : Nat) (b : ByteArray) : (x.openX k q a b).Ok (N + 16) := by
  unfold Ls.openX
  split
  · exact h.mono (by omega)
  · split
    · exact (h.acked hs a).mono (by omega)
    · have h1 := h.acked hs a
      have hl := tkO_len (q := q) (b := b) h.hd
      exact ⟨h1.own0, h1.own, h1.peer, h.hd.take, h1.A16, h1.Q64, h1.ns, h1.sp, h1.szA, h1.szQ, Nat.le_trans h1.kN (by omega), by have := h.aN; change x.a + (tkO x.a x.l q b).length ≤ _; omega⟩
theorem Ls.Ok.takeX {N : Nat} {x : Ls} (h : x.Ok N) (k o p q a : Nat) (b : ByteArray) (ho0 : 0 < o) (ho : o < 4294967296) : (x.takeX k o p q a b).Ok (N + 16) := by
  unfold Ls.takeX
  split
  · exact (h.owed true).mono (by omega)
  · split
    · exact ((h.meet ho).owed true).mono (by omega)
    · exact ((h.meet ho).sured k (by rw [x.meet_peer]; exact ho0)).openX rfl _ _ _ _
theorem Ls.Ok.recvX {N : Nat} {x : Ls} (h : x.Ok N) (t : ByteArray) : (x.recvX t).Ok (N + 16) := by
  unfold Ls.recvX
  split
  · rename_i hg
    have hc := hg.2
    unfold X.decC at hc
    have := chk_own hc
    exact h.takeX _ _ _ _ _ _ (by omega) (X.hdN_lt t 1)
  · exact h.mono (by omega)

/- frames that are read as they were written -/
structure Fit (k o p q a : Nat) (b : ByteArray) : Prop where
  ok : X.chk k o p q a b.size = 0
  o : o < 4294967296
  p : p < 4294967296
  q : q < 4294967296
  a : a < 4294967296
theorem Fit.k {k o p q a : Nat} {b : ByteArray} (h : Fit k o p q a b) : 1 ≤ k ∧ k ≤ 3 := by
  obtain ⟨_, h1, h2⟩ := X.chk_size h.ok
  omega
theorem Fit.good {k o p q a : Nat} {b : ByteArray} (h : Fit k o p q a b) : Good (tx k o p q a b) := by
  refine ⟨?_, X.enc_dec h.ok h.o h.p h.q h.a⟩
  rw [tx, X.enc_size]
  omega
theorem recvX_tx {k o p q a : Nat} {b : ByteArray} (h : Fit k o p q a b) (x : Ls) : x.recvX (tx k o p q a b) = x.takeX k o p q a b := by
  rw [Ls.recvX, if_pos h.good]
  unfold tx bod
  rw [X.enc_hdK _ _ _ _ _ _ (by have := h.k; omega), X.enc_hd1 _ _ _ _ _ _ h.o, X.enc_hd5 _ _ _ _ _ _ h.p, X.enc_hd9 _ _ _ _ _ _ h.q, X.enc_hd13 _ _ _ _ _ _ h.a, X.enc_body]
theorem recvB_tx {k o p q a : Nat} {b : ByteArray} (h : Fit k o p q a b) (x : Ls) : x.recvB (tx k o p q a b) = x.takeB k o p q a b := by
  rw [Ls.recvB, if_pos h.good]
  unfold tx bod
  rw [X.enc_hdK _ _ _ _ _ _ (by have := h.k; omega), X.enc_hd1 _ _ _ _ _ _ h.o, X.enc_hd5 _ _ _ _ _ _ h.p, X.enc_hd9 _ _ _ _ _ _ h.q, X.enc_hd13 _ _ _ _ _ _ h.a, X.enc_body]

end Go.Proofs.Ytcadlcpccemkbaa
