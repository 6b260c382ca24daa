/- What an end keeps to; frames that are read as they were written. Two ends in memory; the chapter's example. -/
import Derived.Test.YtcadlcpccemkbaaJw
namespace Go.Proofs.Ytcadlcpccemkbaa
open Go.RowKit
set_option maxRecDepth 100000

theorem Ls.Ok.mono {N N' : Nat} {x : Ls} (h : x.Ok N) (hn : N ≤ N') : x.Ok N' :=
  ⟨h.own0, h.own, h.peer, h.hd, h.A16, h.Q64, h.ns, h.sp, h.szA, h.szQ, by have := h.kN; omega, by have := h.aN; omega⟩
theorem Ls.Ok.new {own : Nat} (h0 : 0 < own) (h : own < 4294967296) (N : Nat) : (Ls.new own).Ok N :=
  ⟨h0, h, by simp [Ls.new], Hd.none _, by simp [Ls.new], by simp [Ls.new], fun _ => ⟨rfl, rfl, rfl⟩, fun e => (by cases e), by simp [Ls.new], by simp [Ls.new], by simp [Ls.new], by simp [Ls.new]⟩
theorem Ls.send_ok {x : Ls} {b : ByteArray} (h : x.sendC b = 0) : x.sure = true ∧ b.size ≤ 65536 ∧ x.Q.length < 64 := by
  unfold Ls.sendC at h
  split at h
  · cases h
  · rename_i h1
    split at h
    · cases h
    · split at h
      · cases h
      · exact ⟨by simpa using h1, by omega, by omega⟩
theorem Ls.Ok.send {N : Nat} {x : Ls} (h : x.Ok N) (b : ByteArray) : (x.send b).Ok (N + 1) := by
  unfold Ls.send
  by_cases hc : x.sendC b = 0
  · obtain ⟨h1, h2, h3⟩ := Ls.send_ok hc
    rw [if_pos hc]
    refine ⟨h.own0, h.own, h.peer, h.hd, h.A16, ?_, fun e => ?_, h.sp, h.szA, fun c hc => ?_, ?_, by have := h.aN; simp only; omega⟩
    · simp only [List.length_append, List.length_cons, List.length_nil]
      omega
    · change x.sure = false at e
      rw [h1] at e
      cases e
    · rcases List.mem_append.1 hc with hc | hc
      · exact h.szQ c hc
      · rw [List.mem_singleton.1 hc]
        omega
    · have := h.kN
      simp only [List.length_append, List.length_cons, List.length_nil]
      omega
  · rw [if_neg hc]
    exact h.mono (by omega)
theorem Ls.Ok.flush {N : Nat} {x : Ls} (h : x.Ok N) : x.flush.Ok N := h.mv.owed false
theorem ack_len {k : Nat} {A : List ByteArray} (a : Nat) : akK k A a + (akL k A a).length = k + A.length := by
  unfold akK akL
  by_cases hc : akC k A a = 0
  · rw [if_pos hc, if_pos hc, List.length_drop]
    unfold akC at hc
    split at hc
    · cases hc
    · omega
  · rw [if_neg hc, if_neg hc]
theorem akL_mem {k : Nat} {A : List ByteArray} {a : Nat} {b : ByteArray} (h : b ∈ akL k A a) : b ∈ A := by
  unfold akL at h
  split at h
  · exact List.mem_of_mem_drop h
  · exact h
theorem akL_le {k : Nat} {A : List ByteArray} (a : Nat) : (akL k A a).length ≤ A.length := by
  unfold akL
  split
  · rw [List.length_drop]; omega
  · exact Nat.le_refl _
theorem Ls.Ok.acked {N : Nat} {x : Ls} (h : x.Ok N) (hs : x.sure = true) (a : Nat) : (x.acked a).Ok N := by
  refine ⟨h.own0, h.own, h.peer, h.hd, ?_, h.Q64, fun e => ?_, h.sp, fun b hb => h.szA b (akL_mem hb), h.szQ, ?_, h.aN⟩
  · have := akL_le (k := x.k) (A := x.A) a
    have := h.A16
    change (akL x.k x.A a).length ≤ 16
    omega
  · change x.sure = false at e
    rw [hs] at e
    cases e
  · have e := ack_len (k := x.k) (A := x.A) a
    have := h.kN
    change akK x.k x.A a + (akL x.k x.A a).length + x.Q.length ≤ N
    omega
theorem Ls.Ok.openX {N : Nat} {x : Ls} (h : x.Ok N) (hs : x.sure = true) (k q a : Nat) (b : ByteArray) : (x.openX k q a b).Ok (N + 16) := by
  unfold Ls.openX
  split
  · exact h.mono (by omega)
  · split
    · exact (h.acked hs a).mono (by omega)
    · have h1 := h.acked hs a
      have hl := tkO_len (q := q) (b := b) h.hd
      exact ⟨h1.own0, h1.own, h1.peer, h.hd.take, h1.A16, h1.Q64, h1.ns, h1.sp, h1.szA, h1.szQ, Nat.le_trans h1.kN (by omega), by have := h.aN; change x.a + (tkO x.a x.l q b).length ≤ _; omega⟩
theorem Ls.Ok.takeX {N : Nat} {x : Ls} (h : x.Ok N) (k o p q a : Nat) (b : ByteArray) (ho0 : 0 < o) (ho : o < 4294967296) : (x.takeX k o p q a b).Ok (N + 16) := by
  unfold Ls.takeX
  split
  · exact (h.owed true).mono (by omega)
  · split
    · exact ((h.meet ho).owed true).mono (by omega)
    · exact ((h.meet ho).sured k (by rw [x.meet_peer]; exact ho0)).openX rfl _ _ _ _
theorem Ls.Ok.recvX {N : Nat} {x : Ls} (h : x.Ok N) (t : ByteArray) : (x.recvX t).Ok (N + 16) := by
  unfold Ls.recvX
  split
  · rename_i hg
    have hc := hg.2
    unfold X.decC at hc
    have := chk_own hc
    exact h.takeX _ _ _ _ _ _ (by omega) (X.hdN_lt t 1)
  · exact h.mono (by omega)

/- frames that are read as they were written -/
structure Fit (k o p q a : Nat) (b : ByteArray) : Prop where
  ok : X.chk k o p q a b.size = 0
  o : o < 4294967296
  p : p < 4294967296
  q : q < 4294967296
  a : a < 4294967296
theorem Fit.k {k o p q a : Nat} {b : ByteArray} (h : Fit k o p q a b) : 1 ≤ k ∧ k ≤ 3 := by
  obtain ⟨_, h1, h2⟩ := X.chk_size h.ok
  omega
theorem Fit.good {k o p q a : Nat} {b : ByteArray} (h : Fit k o p q a b) : Good (tx k o p q a b) := by
  refine ⟨?_, X.enc_dec h.ok h.o h.p h.q h.a⟩
  rw [tx, X.enc_size]
  omega
theorem recvX_tx {k o p q a : Nat} {b : ByteArray} (h : Fit k o p q a b) (x : Ls) : x.recvX (tx k o p q a b) = x.takeX k o p q a b := by
  rw [Ls.recvX, if_pos h.good]
  unfold tx bod
  rw [X.enc_hdK _ _ _ _ _ _ (by have := h.k; omega), X.enc_hd1 _ _ _ _ _ _ h.o, X.enc_hd5 _ _ _ _ _ _ h.p, X.enc_hd9 _ _ _ _ _ _ h.q, X.enc_hd13 _ _ _ _ _ _ h.a, X.enc_body]
theorem recvB_tx {k o p q a : Nat} {b : ByteArray} (h : Fit k o p q a b) (x : Ls) : x.recvB (tx k o p q a b) = x.takeB k o p q a b := by
  rw [Ls.recvB, if_pos h.good]
  unfold tx bod
  rw [X.enc_hdK _ _ _ _ _ _ (by have := h.k; omega), X.enc_hd1 _ _ _ _ _ _ h.o, X.enc_hd5 _ _ _ _ _ _ h.p, X.enc_hd9 _ _ _ _ _ _ h.q, X.enc_hd13 _ _ _ _ _ _ h.a, X.enc_body]

end Go.Proofs.Ytcadlcpccemkbaa

namespace Go.Proofs.Ytcadlcpccemkbaa
open Go.RowKit
set_option maxRecDepth 100000
attribute [local go_sem] not_any

def Two (B sa sb na nb : Nat) (x y : Ls) (w : World) : Prop :=
  ∃ va ma ua vb mb ub, Lkm B sa va ma ua na x w ∧ Lkm B sb vb mb ub nb y w ∧ ∀ g, Lf sa va ma ua g → ¬ Lf sb vb mb ub g
theorem Two.symm {B sa sb na nb : Nat} {x y : Ls} {w : World} (h : Two B sa sb na nb x y w) : Two B sb sa nb na y x w := by
  obtain ⟨va, ma, ua, vb, mb, ub, h1, h2, h3⟩ := h
  exact ⟨vb, mb, ub, va, ma, ua, h2, h1, fun g hg e => h3 g e hg⟩
theorem Two.step {B sa sb na nb n' : Nat} {va ma ua vb mb ub : Value} {x y x' : Ls} {w w' : World} (h1 : Lkm B sa va ma ua na x w) (h2 : Lkm B sb vb mb ub nb y w) (h3 : ∀ g, Lf sa va ma ua g → ¬ Lf sb vb mb ub g) (h : Lkp B sa va ma ua w n' x' w') : Two B sa sb n' nb x' y w' ∧ Below B w w' := by
  obtain ⟨v', m', u', k1, k2, k3⟩ := h
  refine ⟨⟨v', m', u', vb, mb, ub, k1, h2.kp k2 (fun g hg e => h3 g e hg), fun g hg e => ?_⟩, k2.below (by have := h1.lo; have := lt_heap h1.row; omega) fun g hg => (h1.flt hg).1⟩
  rcases k3 g hg with h4 | h4
  · exact h3 g h4 e
  · have := (h2.flt e).2
    omega
theorem Two.below {C B sa sb na nb : Nat} {x y : Ls} {w w' : World} (h : Two B sa sb na nb x y w) (hb : Below C w w') (hC : w.heap.size ≤ C) : Two B sa sb na nb x y w' := by
  obtain ⟨va, ma, ua, vb, mb, ub, h1, h2, h3⟩ := h
  exact ⟨va, ma, ua, vb, mb, ub, h1.below hb hC, h2.below hb hC, h3⟩
theorem Flp.lkp {B s n : Nat} {v m u r : Value} {x : Ls} {F : List ByteArray} {w w' : World} (h : Flp B s v m u w n x r F w') : Lkp B s v m u w n x w' ∧ Lst w.heap.size w' r F := by
  obtain ⟨v', m', u', h1, h2, h3, h4, _⟩ := h
  exact ⟨⟨v', m', u', h1, h2, h3⟩, h4⟩

theorem two_tick {N B sa sb na nb : Nat} {x y : Ls} {w : World} (h : Two B sa sb na nb x y w) (hx : x.Ok N) (hN : N + 1000 < 4294967296) :
    Calls Try.prog 16 #[.pointer (some ⟨sa, 0, none⟩)] w fun e w' => ∃ r, e = .returned r ∧ Two B sa sb na nb x.flush y w' ∧ Rdl w' r x.tickF ∧ Below B w w' := by
  obtain ⟨va, ma, ua, vb, mb, ub, h1, h2, h3⟩ := h
  refine (ltick_any h1 (by have := h1.lo; have := lt_heap h1.row; omega) hx hN).mono ?_
  rintro e w' ⟨r, rfl, hf⟩
  obtain ⟨a1, a2⟩ := hf.lkp
  obtain ⟨t1, t2⟩ := Two.step h1 h2 h3 a1
  exact ⟨r, rfl, t1, a2.rd, t2⟩
theorem two_flush {N B sa sb na nb : Nat} {x y : Ls} {w : World} (h : Two B sa sb na nb x y w) (hx : x.Ok N) (hN : N + 1000 < 4294967296) :
    Calls Try.prog 15 #[.pointer (some ⟨sa, 0, none⟩)] w fun e w' => ∃ r, e = .returned r ∧ Two B sa sb na nb x.flush y w' ∧ Rdl w' r x.flushF ∧ Below B w w' := by
  obtain ⟨va, ma, ua, vb, mb, ub, h1, h2, h3⟩ := h
  refine (lflush_any h1 (by have := h1.lo; have := lt_heap h1.row; omega) hx hN).mono ?_
  rintro e w' ⟨r, rfl, hf⟩
  obtain ⟨a1, a2⟩ := hf.lkp
  obtain ⟨t1, t2⟩ := Two.step h1 h2 h3 a1
  exact ⟨r, rfl, t1, a2.rd, t2⟩
theorem two_recv {N B sa sb na nb : Nat} {x y : Ls} {w : World} (h : Two B sa sb na nb x y w) (hx : x.Ok N) (hN : N + 1000 < 4294967296) (hn : na < 1000000) (t : ByteArray) (ht : t.size ≤ 281474976710656) :
    Calls Try.prog 18 #[.pointer (some ⟨sa, 0, none⟩), .string t] w fun e w' => ∃ z, e = .returned z ∧ Two B sa sb (na + 1) nb (x.recvX t) y w' ∧ Below B w w' := by
  obtain ⟨va, ma, ua, vb, mb, ub, h1, h2, h3⟩ := h
  refine (lrecv_any h1 (by have := h1.lo; have := lt_heap h1.row; omega) hx hN hn t ht).mono ?_
  rintro e w' ⟨r, d, z, rfl, _, _, hf⟩
  exact ⟨_, rfl, Two.step h1 h2 h3 hf.lkp.1⟩
set_option maxHeartbeats 1000000 in
theorem two_pass {N B sa sb na nb : Nat} {x y : Ls} {w : World} {r : Value} {t : ByteArray} (h : Two B sa sb na nb x y w) (hx : x.Ok N) (hN : N + 1000 < 4294967296) (hn : na < 1000000) (ht : t.size ≤ 281474976710656) (hr : Rdl w r [t]) :
    Calls Try.prog 20 #[r, .pointer (some ⟨sa, 0, none⟩)] w fun e w' => e = .returned (.bool true) ∧ Two B sa sb (na + 1) nb (x.recvX t) y w' ∧ Below B w w' := by
  have k := hide1 (two_recv h hx hN hn t ht)
  obtain ⟨a, c, rfl, hc⟩ := hr
  obtain ⟨g, o, rfl, hg⟩ := hc 0 (by simp)
  change w.cell? ⟨g, o + 0, none⟩ = some (.string t) at hg
  rw [Nat.add_zero] at hg
  have HG := hide1 hg
  have H := hide1 h
  clear hc hx hN hn ht h hg
  change Calls Try.prog 20 #[.slice (some ⟨g, o, none⟩) 1 c, _] w _
  go_enter Try.func20, Try.ntmps20
  go_wp2_with fail
  go_loopw [5] (fun i wr => (i = .int .i64 0 ∧ wr = w) ∨ (i = .int .i64 1 ∧ Two B sa sb (na + 1) nb (x.recvX t) y wr ∧ Below B w wr)) (fun i _ => 1 - (intOf i).toNat)
  case atStart => exact .inl ⟨rfl, rfl⟩
  case round =>
    rcases hrel with ⟨rfl, hw⟩ | ⟨rfl, hT⟩
    · subst hw
      have hg := HG.out
      go_wp2_with fail
      refine k.out.mono ?_
      rintro e w1 ⟨z, rfl, hT⟩
      have HT := hide1 hT
      clear hT hg k
      go_wp2
      go_roundw
      case rel => exact .inr ⟨by go_num, HT.out⟩
      case measure => simp [intOf]
    · have HT := hide1 hT
      clear hT
      go_wp2
      go_ret
      exact ⟨rfl, HT.out⟩

/- the example's ends -/
def eA : Ls := ⟨1, 5, true, true, 0, [], 0, [], []⟩
def eB : Ls := ⟨5, 1, false, true, 0, [], 0, [], []⟩
theorem e0 : (Ls.new 1).flush = Ls.new 1 := rfl
theorem e1 : (Ls.new 1).tickF = [tx 1 1 0 0 0 ⟨#[]⟩] := rfl
theorem e2 : (Ls.new 5).recvX (tx 1 1 0 0 0 ⟨#[]⟩) = eB := by
  rw [recvX_tx ⟨by decide, by decide, by decide, by decide, by decide⟩]
  rfl
theorem e3 : eB.flushF = [tx 1 5 1 0 0 ⟨#[]⟩] := rfl
theorem e4 : (Ls.new 1).recvX (tx 1 5 1 0 0 ⟨#[]⟩) = eA := by
  rw [recvX_tx ⟨by decide, by decide, by decide, by decide, by decide⟩]
  rfl
theorem e5 : eA.flushF = [tx 3 1 5 0 1 ⟨#[]⟩] := rfl
theorem e6 : (eB.flush.recvX (tx 3 1 5 0 1 ⟨#[]⟩)).sure = true ∧ (eB.flush.recvX (tx 3 1 5 0 1 ⟨#[]⟩)).peer = 1 ∧ eA.flush.sure = true ∧ eA.flush.peer = 5 := by
  rw [recvX_tx ⟨by decide, by decide, by decide, by decide, by decide⟩]
  exact ⟨rfl, rfl, rfl, rfl⟩
theorem tx_size (k o p q a : Nat) : (tx k o p q a ⟨#[]⟩).size ≤ 281474976710656 := by
  rw [tx, X.enc_size]
  decide
theorem okA : eA.Ok 100 := ⟨by decide, by decide, by decide, Hd.none _, by decide, by decide, fun e => (by cases e), fun _ => by decide, by simp [eA], by simp [eA], by decide, by decide⟩
theorem okB : eB.Ok 100 := ⟨by decide, by decide, by decide, Hd.none _, by decide, by decide, fun _ => ⟨rfl, rfl, rfl⟩, fun e => (by cases e), by simp [eB], by simp [eB], by decide, by decide⟩

set_option maxHeartbeats 2000000 in
theorem awake_any (w : World) : Calls Try.prog 8 #[] w fun e w' => e = .returned (.bool true) ∧ Below w.heap.size w w' := by
  have kN := fun (o : Nat) (h : 0 < o) w => hide1 (lnew_any o h w)
  go_enter Try.func8, Try.ntmps8
  go_wp2_with fail
  refine (kN 1 (by decide) _).out.mono ?_
  rintro e W1 ⟨rfl, M1, B1⟩
  obtain ⟨sa, hsa⟩ : ∃ s, w.heap.size = s := ⟨_, rfl⟩
  have HSA := hide1 hsa
  rw [hsa] at M1 ⊢
  have HM1 := hide1 M1
  have HB1 := hide1 B1
  clear M1 B1 hsa
  go_wp2_with fail
  refine (kN 5 (by decide) _).out.mono ?_
  rintro e W2 ⟨rfl, M2, B2⟩
  have T2 : Hid (Two sa sa W1.heap.size 0 0 (Ls.new 1) (Ls.new 5) W2) := by
    have hlt := lt_heap HM1.out.row
    refine ⟨_, _, _, _, _, _, HM1.out.below B2 (Nat.le_refl _), ⟨M2.row, by omega, Lst.nil _ _, M2.inn, Lst.nil _ _, M2.nv, M2.nm, M2.nu, M2.vu, M2.mv, M2.mu, fun g hg => (by cases hg)⟩, fun g hg e => ?_⟩
    rcases hg with hg | hg | hg | hg
    · rcases e with e | e | e | e
      · omega
      · cases e
      · cases e
      · cases e
    · cases hg
    · cases hg
    · cases hg
  have HB2 : Hid (Below sa w W2) := by
    have h1 := HB1.out
    rw [HSA.out] at h1
    exact h1.trans (B2.mono (by have := lt_heap HM1.out.row; omega))
  obtain ⟨sb, hsb⟩ : ∃ s, W1.heap.size = s := ⟨_, rfl⟩
  rw [hsb] at T2 ⊢
  clear M2 B2 HM1 HB1 hsb kN
  have k1 := hide1 (two_tick (N := 100) T2.out (Ls.Ok.new (by decide) (by decide) _) (by decide))
  rw [e0, e1] at k1
  go_wp2_with fail
  refine k1.out.mono ?_
  rintro e W3 ⟨r3, rfl, T3, R3, C3⟩
  have k2 := hide1 (two_pass (N := 100) T3.symm (Ls.Ok.new (by decide) (by decide) _) (by decide) (by decide) (tx_size _ _ _ _ _) R3)
  rw [e2] at k2
  have HB3 := hide1 (HB2.out.trans C3)
  clear k1 T2 HB2 T3 R3 C3
  go_wp2_with fail
  refine k2.out.mono ?_
  rintro e W4 ⟨rfl, T4, C4⟩
  have k3 := hide1 (two_flush (N := 100) T4 okB (by decide))
  rw [e3] at k3
  have HB4 := hide1 (HB3.out.trans C4)
  clear k2 T4 C4 HB3
  go_wp2_with fail
  refine k3.out.mono ?_
  rintro e W5 ⟨r5, rfl, T5, R5, C5⟩
  have k4 := hide1 (two_pass (N := 100) T5.symm (Ls.Ok.new (by decide) (by decide) _) (by decide) (by decide) (tx_size _ _ _ _ _) R5)
  rw [e4] at k4
  have HB5 := hide1 (HB4.out.trans C5)
  clear k3 T5 R5 C5 HB4
  go_wp2_with fail
  refine k4.out.mono ?_
  rintro e W6 ⟨rfl, T6, C6⟩
  have k5 := hide1 (two_flush (N := 100) T6 okA (by decide))
  rw [e5] at k5
  have HB6 := hide1 (HB5.out.trans C6)
  clear k4 T6 C6 HB5
  go_wp2_with fail
  refine k5.out.mono ?_
  rintro e W7 ⟨r7, rfl, T7, R7, C7⟩
  have k6 := hide1 (two_pass (N := 100) T7.symm okB.flush (by decide) (by decide) (tx_size _ _ _ _ _) R7)
  have HB7 := hide1 (HB6.out.trans C7)
  clear k5 T7 R7 C7 HB6
  go_wp2_with fail
  refine k6.out.mono ?_
  rintro e W8 ⟨rfl, T8, C8⟩
  have HB8 := hide1 (HB7.out.trans C8)
  obtain ⟨vb, mb, ub, va, ma, ua, h1, h2, _⟩ := T8
  have a1 := hide1 (lready_any h2 (by decide))
  have a2 := hide1 (lready_any h1 ((okB.flush.recvX _).own0))
  have a3 := hide1 (lpeer_any h2 (by decide))
  have a4 := hide1 (lpeer_any h1 ((okB.flush.recvX _).own0))
  obtain ⟨q1, q2, q3, q4⟩ := e6
  rw [q3] at a1
  rw [q1] at a2
  rw [q4] at a3
  rw [q2] at a4
  clear k6 HB7 h1 h2 q1 q2 q3 q4
  go_wp2_with fail
  refine a1.out.mono ?_
  rintro e w1 ⟨rfl, hw⟩
  obtain rfl := hw.symm
  go_wp2_with fail
  refine a2.out.mono ?_
  rintro e w1 ⟨rfl, hw⟩
  obtain rfl := hw.symm
  go_wp2_with fail
  refine a3.out.mono ?_
  rintro e w1 ⟨rfl, hw⟩
  obtain rfl := hw.symm
  go_wp2_with fail
  refine a4.out.mono ?_
  rintro e w1 ⟨rfl, hw⟩
  obtain rfl := hw.symm
  go_wp2
  go_ret
  exact ⟨rfl, HSA.out ▸ HB8.out⟩

end Go.Proofs.Ytcadlcpccemkbaa
