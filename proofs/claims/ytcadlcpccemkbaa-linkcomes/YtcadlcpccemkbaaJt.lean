/- Flush, Tick. -/
import Derived.Test.YtcadlcpccemkbaaJs
namespace Go.Proofs.Ytcadlcpccemkbaa
open Go.RowKit
set_option maxRecDepth 100000
attribute [local go_sem] not_any

theorem mem_pend : ∀ {k : Nat} {A : List ByteArray} {p : Nat × ByteArray}, p ∈ pend k A → k ≤ p.1 ∧ p.1 < k + A.length ∧ p.2 ∈ A
  | _, [], _, h => by simp [pend] at h
  | k, s :: A, p, h => by
    rw [pend] at h
    rcases List.mem_cons.1 h with rfl | h
    · exact ⟨Nat.le_refl _, by simp, by simp⟩
    · obtain ⟨h1, h2, h3⟩ := mem_pend h
      exact ⟨by omega, by simp only [List.length_cons]; omega, List.mem_cons_of_mem _ h3⟩
theorem Ls.mv_A {N : Nat} {x : Ls} (h : x.Ok N) : (x.A ++ x.Q.take x.mvn).length = x.A.length + x.mvn ∧ x.A.length + x.mvn ≤ 16 ∧ x.mvn ≤ x.Q.length := by
  have h1 := h.A16
  have e : (x.Q.take x.mvn).length = x.mvn := by
    rw [List.length_take]
    unfold Ls.mvn
    omega
  refine ⟨by rw [List.length_append, e], ?_, ?_⟩ <;> (unfold Ls.mvn; omega)
theorem Ls.Ok.mv {N : Nat} {x : Ls} (h : x.Ok N) : x.mv.Ok N := by
  obtain ⟨h1, h2, h3⟩ := Ls.mv_A h
  refine ⟨h.own0, h.own, h.peer, h.hd, ?_, ?_, fun hs => ?_, h.sp, fun b hb => ?_, fun b hb => h.szQ b (List.mem_of_mem_drop hb), ?_, h.aN⟩
  · change (x.A ++ x.Q.take x.mvn).length ≤ 16
    omega
  · change (x.Q.drop x.mvn).length ≤ 64
    have := h.Q64
    rw [List.length_drop]
    omega
  · obtain ⟨e1, e2, e3⟩ := h.ns hs
    refine ⟨?_, ?_, e3⟩
    · change x.A ++ x.Q.take x.mvn = []
      rw [e1, e2]
      simp
    · change x.Q.drop x.mvn = []
      rw [e2]
      simp
  · rcases List.mem_append.1 hb with hb | hb
    · exact h.szA b hb
    · exact h.szQ b (List.mem_of_mem_take hb)
  · have := h.kN
    change x.k + (x.A ++ x.Q.take x.mvn).length + (x.Q.drop x.mvn).length ≤ N
    rw [h1, List.length_drop]
    omega
theorem Ls.Ok.peer_of {N : Nat} {x : Ls} (h : x.Ok N) (hq : x.A ≠ [] ∨ x.Q ≠ []) : 0 < x.peer := by
  cases hs : x.sure with
  | true => exact h.sp hs
  | false =>
    obtain ⟨e1, e2, _⟩ := h.ns hs
    rcases hq with hq | hq
    · exact absurd e1 hq
    · exact absurd e2 hq
theorem pend_nil {k : Nat} {A : List ByteArray} : pend k A ≠ [] → A ≠ [] := fun h e => h (by rw [e]; rfl)
theorem Ls.fms_mvd {N : Nat} {x : Ls} (h : x.Ok N) (hN : N + 1000 < 4294967296) : Fms x.mv x.mvd := by
  obtain ⟨h1, h2, h3⟩ := Ls.mv_A h
  have hl : (x.Q.take x.mvn).length = x.mvn := by rw [List.length_take]; omega
  refine ⟨?_, fun he => h.peer_of (.inr fun e => pend_nil he (by rw [e]; simp)), fun p hp => ?_⟩
  · unfold Ls.mvd
    rw [pend_length, hl]
    omega
  · obtain ⟨a1, a2, a3⟩ := mem_pend hp
    rw [hl] at a2
    have := h.kN
    exact ⟨by omega, by omega, h.szQ _ (List.mem_of_mem_take a3)⟩
theorem Ls.fms_pend {N : Nat} {x : Ls} (h : x.Ok N) (hN : N + 1000 < 4294967296) : Fms x (pend (x.k + 1) x.A) := by
  refine ⟨?_, fun he => h.peer_of (.inl (pend_nil he)), fun p hp => ?_⟩
  · rw [pend_length]
    have := h.A16
    omega
  · obtain ⟨a1, a2, a3⟩ := mem_pend hp
    have := h.kN
    exact ⟨by omega, by omega, h.szA _ a3⟩

/- what a call leaves that tells frames -/
def Flp (B s : Nat) (v m u : Value) (w : World) (n : Nat) (x : Ls) (r : Value) (F : List ByteArray) (w' : World) : Prop :=
  ∃ v' m' u', Lkm B s v' m' u' n x w' ∧ Kp (Lf s v m u) w w' ∧ (∀ g, Lf s v' m' u' g → Lf s v m u g ∨ w.heap.size ≤ g) ∧ Lst w.heap.size w' r F ∧ ∀ g, r.ownBlock = some g → ¬ Lf s v' m' u' g
/- the end behind a Flush, its frames; behind a Tick, its frames -/
def Ls.flush (x : Ls) : Ls := { x.mv with owed := false }
def Ls.flushF (x : Ls) : List ByteArray := if x.mvd = [] ∧ x.owed = false then [] else x.mv.tell x.mvd
def Ls.tickF (x : Ls) : List ByteArray := x.mv.tell (pend (x.k + 1) x.mv.A)

set_option maxHeartbeats 1000000 in
theorem lflush_any {N B s n : Nat} {v m u : Value} {x : Ls} {w : World} (h : Lkm B s v m u n x w) (hBw : B ≤ w.heap.size) (hx : x.Ok N) (hN : N + 1000 < 4294967296) :
    Calls Try.prog 15 #[.pointer (some ⟨s, 0, none⟩)] w fun e w' => ∃ r, e = .returned r ∧ Flp B s v m u w n x.flush r x.flushF w' := by
  have kM := hide1 (lmade_any h hx.own0)
  have kV := hide1 (lmove_any h hBw hx hN)
  have HX := hide1 hx
  have HN := hide1 hN
  obtain ⟨P, hP⟩ : ∃ P : Value → World → Prop, P = fun r w' => Flp B s v m u w n x.flush r x.flushF w' := ⟨_, rfl⟩
  have HP : Hid (∀ r w', Flp B s v m u w n x.flush r x.flushF w' → P r w') := fun r w' h => by rw [hP]; exact h
  suffices hs : Calls Try.prog 15 #[.pointer (some ⟨s, 0, none⟩)] w fun e w' => ∃ r, e = .returned r ∧ P r w' by rw [hP] at hs; exact hs
  clear h hBw hx hN hP
  go_enter Try.func15, Try.ntmps15
  go_wp2_with fail
  refine kM.out.mono ?_
  rintro e w1 ⟨rfl, hw1⟩
  obtain rfl := hw1.symm
  go_wp2_with fail
  refine kV.out.mono ?_
  rintro e W1 ⟨z, rfl, v1, m1, u1, M1, K1, F1, Z1, D1⟩
  obtain ⟨za, zc, hz⟩ := Z1.form
  obtain ⟨zn, hzn⟩ : ∃ k, x.mvd.length = k := ⟨_, rfl⟩
  rw [hzn] at hz
  have c3 := (boxS M1.row).2.2.2.1
  have kT := hide1 (ltell_any M1 HX.out.mv HN.out Z1.rd (fun g hg e => D1 g hg (.inl e)) (Ls.fms_mvd HX.out HN.out))
  have M1' := hide1 M1
  have K1' := hide1 K1
  have F1' := hide1 F1
  have Z1' := hide1 Z1
  have HZN := hide1 hzn
  subst hz
  clear kV kM M1 K1 F1 Z1 D1 hzn
  have TL : Hid (Calls Try.prog 26 #[.pointer (some ⟨s, 0, none⟩), .slice za zn zc] W1 fun e w' => ∃ r, e = .returned r ∧ (x.mv.tell x.mvd = x.flushF → P r w')) := by
    refine kT.out.mono ?_
    rintro e w' ⟨r, rfl, hL, hM, hK⟩
    refine ⟨r, rfl, fun he => HP.out r w' ⟨v1, m1, u1, hM, ?_, F1'.out, ?_, fun g hg e => ?_⟩⟩
    · exact K1'.out.join hK fun g hg => F1'.out g hg
    · rw [← he]
      exact hL.mono K1'.out.size
    · have h1 := (hL.lt hg).1
      have h2 := (M1'.out.flt e).2
      omega
  by_cases h0 : zn = 0
  · subst h0
    have hd : Hid (x.mvd = []) := List.eq_nil_of_length_eq_zero HZN.out
    cases ho : x.owed with
    | false =>
      have ho' : x.mv.owed = false := ho
      rw [ho'] at c3
      have HO := hide1 ho
      clear kT ho ho'
      go_wp2
      go_ret
      refine ⟨_, rfl, HP.out _ _ ⟨v1, m1, u1, ?_, K1'.out, F1'.out, ?_, fun g hg => by cases hg⟩⟩
      · have e : x.flush = x.mv := by
          unfold Ls.flush Ls.mv
          rw [HO.out]
        rw [e]
        exact M1'.out
      · rw [Ls.flushF, if_pos ⟨hd.out, HO.out⟩]
        exact Lst.nil _ _
    | true =>
      have ho' : x.mv.owed = true := ho
      rw [ho'] at c3
      have HO := hide1 ho
      clear kT ho ho'
      go_wp2_with (go_at_call 26; refine TL.out.mono ?_; rintro e w' ⟨r, rfl, hr⟩)
      go_ret
      exact ⟨_, rfl, hr (by rw [Ls.flushF, if_neg (by rw [HO.out]; simp)])⟩
  · have hzb : ((zn : Int) == 0) = false := by simp; omega
    have hd : Hid (x.mvd ≠ []) := fun e => h0 (by rw [← HZN.out, e]; rfl)
    clear kT h0 c3
    go_wp2_with (go_at_call 26; refine TL.out.mono ?_; rintro e w' ⟨r, rfl, hr⟩)
    go_ret
    exact ⟨_, rfl, hr (by rw [Ls.flushF, if_neg (fun e => hd.out e.1)])⟩

set_option maxHeartbeats 1000000 in
theorem ltick_any {N B s n : Nat} {v m u : Value} {x : Ls} {w : World} (h : Lkm B s v m u n x w) (hBw : B ≤ w.heap.size) (hx : x.Ok N) (hN : N + 1000 < 4294967296) :
    Calls Try.prog 16 #[.pointer (some ⟨s, 0, none⟩)] w fun e w' => ∃ r, e = .returned r ∧ Flp B s v m u w n x.flush r x.tickF w' := by
  have kM := hide1 (lmade_any h hx.own0)
  have kV := hide1 (lmove_any h hBw hx hN)
  have HX := hide1 hx
  have HN := hide1 hN
  obtain ⟨P, hP⟩ : ∃ P : Value → World → Prop, P = fun r w' => Flp B s v m u w n x.flush r x.tickF w' := ⟨_, rfl⟩
  have HP : Hid (∀ r w', Flp B s v m u w n x.flush r x.tickF w' → P r w') := fun r w' h => by rw [hP]; exact h
  suffices hs : Calls Try.prog 16 #[.pointer (some ⟨s, 0, none⟩)] w fun e w' => ∃ r, e = .returned r ∧ P r w' by rw [hP] at hs; exact hs
  clear h hBw hx hN hP
  go_enter Try.func16, Try.ntmps16
  go_wp2_with fail
  refine kM.out.mono ?_
  rintro e w1 ⟨rfl, hw1⟩
  obtain rfl := hw1.symm
  go_wp2_with fail
  refine kV.out.mono ?_
  rintro e W1 ⟨z, rfl, v1, m1, u1, M1, K1, F1, Z1, D1⟩
  have kP := hide1 (pending_any M1.otm (by have h1 := HX.out.mv.kN; have h2 := HN.out; omega) (by have := HX.out.mv.A16; omega) (fun b hb => Nat.le_trans (HX.out.mv.szA b hb) (by decide)))
  change Hid (Calls Try.prog 27 _ W1 fun e w' => ∃ z, e = .returned z ∧ Nls _ W1.heap.size w' z (pend (x.k + 1) x.mv.A) ∧ Below W1.heap.size W1 w') at kP
  have M1' := hide1 M1
  have K1' := hide1 K1
  have F1' := hide1 F1
  clear kV kM M1 K1 F1 Z1 D1
  go_wp2_with fail
  refine kP.out.mono ?_
  rintro e W2 ⟨y, rfl, hy, hb2⟩
  have M2 := M1'.out.below hb2 (Nat.le_refl _)
  have kT := hide1 (ltell_any M2 HX.out.mv HN.out hy.rd (fun g hg e => by have h1 := (hy.lt hg).1; have h2 := lt_heap M1'.out.row; omega) (Ls.fms_pend HX.out.mv HN.out))
  have K2 := hide1 (K1'.out.trans (Kp.ofBelow hb2))
  have M2' := hide1 M2
  have HS2 := hide1 hb2.size
  clear kP hy hb2 M2
  have TL : Hid (Calls Try.prog 26 #[.pointer (some ⟨s, 0, none⟩), y] W2 fun e w' => ∃ r, e = .returned r ∧ P r w') := by
    refine kT.out.mono ?_
    rintro e w' ⟨r, rfl, hL, hM, hK⟩
    refine ⟨r, rfl, HP.out r w' ⟨v1, m1, u1, hM, K2.out.join hK fun g hg => F1'.out g hg, F1'.out, hL.mono K2.out.size, fun g hg e => ?_⟩⟩
    have h1 := (hL.lt hg).1
    have h2 := (M2'.out.flt e).2
    omega
  clear kT
  go_wp2_with (go_at_call 26; refine TL.out.mono ?_; rintro e w' ⟨r, rfl, hr⟩)
  go_ret
  exact ⟨_, rfl, hr⟩

end Go.Proofs.Ytcadlcpccemkbaa
