/- Flush, Tick. New; starts met; what a frame of both starts brings. -/
import Derived.Test.YtcadlcpccemkbaaGreatDoorJs
namespace Go.Proofs.YtcadlcpccemkbaaGreatDoor
open Go.RowKit
set_option maxRecDepth 100000
attribute [local go_sem] not_any

theorem mem_pend : ∀ {k : Nat} {A : List ByteArray} {p : Nat × ByteArray}, p ∈ pend k A → k ≤ p.1 ∧ p.1 < k + A.length ∧ p.2 ∈ A
  | _, [], _, h => by simp [pend] at h
  | k, s :: A, p, h => by
    rw [pend] at h
    rcases List.mem_cons.1 h with rfl | h
    · exact ⟨Nat.le_refl _, by simp, by simp⟩
    · obtain ⟨h1, h2, h3⟩ := mem_pend h
      exact ⟨by omega, by simp only [List.length_cons]; omega, List.mem_cons_of_mem _ h3⟩
theorem Ls.mv_A {N : Nat} {x : Ls} (h : x.Ok N) : (x.A ++ x.Q.take x.mvn).length = x.A.length + x.mvn ∧ x.A.length + x.mvn ≤ 16 ∧ x.mvn ≤ x.Q.length := by
  have h1 := h.A16
  have e : (x.Q.take x.mvn).length = x.mvn := by
    rw [List.length_take]
    unfold Ls.mvn
    omega
  refine ⟨by rw [List.length_append, e], ?_, ?_⟩ <;> (unfold Ls.mvn; omega)
theorem Ls.Ok.mv {N : Nat} {x : Ls} (h : x.Ok N) : x.mv.Ok N := by
  obtain ⟨h1, h2, h3⟩ := Ls.mv_A h
  refine ⟨h.own0, h.own, h.peer, h.hd, ?_, ?_, fun hs => ?_, h.sp, fun b hb => ?_, fun b hb => h.szQ b (List.mem_of_mem_drop hb), ?_, h.aN⟩
  · change (x.A ++ x.Q.take x.mvn).length ≤ 16
    omega
  · change (x.Q.drop x.mvn).length ≤ 64
    have := h.Q64
    rw [List.length_drop]
    omega
  · obtain ⟨e1, e2, e3⟩ := h.ns hs
    refine ⟨?_, ?_, e3⟩
    · change x.A ++ x.Q.take x.mvn = []
      rw [e1, e2]
      simp
    · change x.Q.drop x.mvn = []
      rw [e2]
      simp
  · rcases List.mem_append.1 hb with hb | hb
    · exact h.szA b hb
    · exact h.szQ b (List.mem_of_mem_take hb)
  · have := h.kN
    change x.k + (x.A ++ x.Q.take x.mvn).length + (x.Q.drop x.mvn).length ≤ N
    rw [h1, List.length_drop]
    omega
theorem Ls.Ok.peer_of {N : Nat} {x : Ls} (h : x.Ok N) (hq : x.A ≠ [] ∨ x.Q ≠ []) : 0 < x.peer := by
  cases hs : x.sure with
  | true => exact h.sp hs
  | false =>
    obtain ⟨e1, e2, _⟩ := h.ns hs
    rcases hq with hq | hq
    · exact absurd e1 hq
    · exact absurd e2 hq
theorem pend_nil {k : Nat} {A : List ByteArray} : pend k A ≠ [] → A ≠ [] := fun h e => h (by rw [e]; rfl)
theorem Ls.fms_mvd {N : Nat} {x : Ls} (h : x.Ok N) (hN : N + 1000 < 4294967296) : Fms x.mv x.mvd := by
  obtain ⟨h1, h2, h3⟩ := Ls.mv_A h
  have hl : (x.Q.take x.mvn).length = x.mvn := by rw [List.length_take]; omega
  refine ⟨?_, fun he => h.peer_of (.inr fun e => pend_nil he (by rw [e]; simp)), fun p hp => ?_⟩
  · unfold Ls.mvd
    rw [pend_length, hl]
    omega
  · obtain ⟨a1, a2, a3⟩ := mem_pend hp
    rw [hl] at a2
    have := h.kN
    exact ⟨by omega, by omega, h.szQ _ (List.mem_of_mem_take a3)⟩
theorem Ls.fms_pend {N : Nat} {x : Ls} (h : x.Ok N) (hN : N + 1000 < 4294967296) : Fms x (pend (x.k + 1) x.A) := by
  refine ⟨?_, fun he => h.peer_of (.inl (pend_nil he)), fun p hp => ?_⟩
  · rw [pend_length]
    have := h.A16
    omega
  · obtain ⟨a1, a2, a3⟩ := mem_pend hp
    have := h.kN
    exact ⟨by omega, by omega, h.szA _ a3⟩

/- what a call leaves that tells frames -/
def Flp (B s : Nat) (v m u : Value) (w : World) (n : Nat) (x : Ls) (r : Value) (F : List ByteArray) (w' : World) : Prop :=
  ∃ v' m' u', Lkm B s v' m' u' n x w' ∧ Kp (Lf s v m u) w w' ∧ (∀ g, Lf s v' m' u' g → Lf s v m u g ∨ w.heap.size ≤ g) ∧ Lst w.heap.size w' r F ∧ ∀ g, r.ownBlock = some g → ¬ Lf s v' m' u' g
/- the end behind a Flush, its frames; behind a Tick, its frames -/
def Ls.flush (x : Ls) : Ls := { x.mv with owed := false }
def Ls.flushF (x : Ls) : List ByteArray := if x.mvd = [] ∧ x.owed = false then [] else x.mv.tell x.mvd
def Ls.tickF (x : Ls) : List ByteArray := x.mv.tell (pend (x.k + 1) x.mv.A)

set_option maxHeartbeats 1000000 in
theorem lflush_any {N B s n : Nat} {v m u : Value} {x : Ls} {w : World} (h : Lkm B s v m u n x w) (hBw : B ≤ w.heap.size) (hx : x.Ok N) (hN : N + 1000 < 4294967296) :
    Calls Tryz.prog 12 #[.pointer (some ⟨s, 0, none⟩)] w fun e w' => ∃ r, e = .returned r ∧ Flp B s v m u w n x.flush r x.flushF w' := by
  have kM := hide1 (lmade_any h hx.own0)
  have kV := hide1 (lmove_any h hBw hx hN)
  have HX := hide1 hx
  have HN := hide1 hN
  obtain ⟨P, hP⟩ : ∃ P : Value → World → Prop, P = fun r w' => Flp B s v m u w n x.flush r x.flushF w' := ⟨_, rfl⟩
  have HP : Hid (∀ r w', Flp B s v m u w n x.flush r x.flushF w' → P r w') := fun r w' h => by rw [hP]; exact h
  suffices hs : Calls Tryz.prog 12 #[.pointer (some ⟨s, 0, none⟩)] w fun e w' => ∃ r, e = .returned r ∧ P r w' by rw [hP] at hs; exact hs
  clear h hBw hx hN hP
  go_enter Tryz.func12, Tryz.ntmps12
  go_wp2_with fail
  refine kM.out.mono ?_
  rintro e w1 ⟨rfl, hw1⟩
  obtain rfl := hw1.symm
  go_wp2_with fail
  refine kV.out.mono ?_
  rintro e W1 ⟨z, rfl, v1, m1, u1, M1, K1, F1, Z1, D1⟩
  obtain ⟨za, zc, hz⟩ := Z1.form
  obtain ⟨zn, hzn⟩ : ∃ k, x.mvd.length = k := ⟨_, rfl⟩
  rw [hzn] at hz
  have c3 := (boxS M1.row).2.2.2.1
  have kT := hide1 (ltell_any M1 HX.out.mv HN.out Z1.rd (fun g hg e => D1 g hg (.inl e)) (Ls.fms_mvd HX.out HN.out))
  have M1' := hide1 M1
  have K1' := hide1 K1
  have F1' := hide1 F1
  have Z1' := hide1 Z1
  have HZN := hide1 hzn
  subst hz
  clear kV kM M1 K1 F1 Z1 D1 hzn
  have TL : Hid (Calls Tryz.prog 41 #[.pointer (some ⟨s, 0, none⟩), .slice za zn zc] W1 fun e w' => ∃ r, e = .returned r ∧ (x.mv.tell x.mvd = x.flushF → P r w')) := by
    refine kT.out.mono ?_
    rintro e w' ⟨r, rfl, hL, hM, hK⟩
    refine ⟨r, rfl, fun he => HP.out r w' ⟨v1, m1, u1, hM, ?_, F1'.out, ?_, fun g hg e => ?_⟩⟩
    · exact K1'.out.join hK fun g hg => F1'.out g hg
    · rw [← he]
      exact hL.mono K1'.out.size
    · have h1 := (hL.lt hg).1
      have h2 := (M1'.out.flt e).2
      omega
  by_cases h0 : zn = 0
  · subst h0
    have hd : Hid (x.mvd = []) := List.eq_nil_of_length_eq_zero HZN.out
    cases ho : x.owed with
    | false =>
      have ho' : x.mv.owed = false := ho
      rw [ho'] at c3
      have HO := hide1 ho
      clear kT ho ho'
      go_wp2
      go_ret
      refine ⟨_, rfl, HP.out _ _ ⟨v1, m1, u1, ?_, K1'.out, F1'.out, ?_, fun g hg => by cases hg⟩⟩
      · have e : x.flush = x.mv := by
          unfold Ls.flush Ls.mv
          rw [HO.out]
        rw [e]
        exact M1'.out
      · rw [Ls.flushF, if_pos ⟨hd.out, HO.out⟩]
        exact Lst.nil _ _
    | true =>
      have ho' : x.mv.owed = true := ho
      rw [ho'] at c3
      have HO := hide1 ho
      clear kT ho ho'
      go_wp2_with (go_at_call 41; refine TL.out.mono ?_; rintro e w' ⟨r, rfl, hr⟩)
      go_ret
      exact ⟨_, rfl, hr (by rw [Ls.flushF, if_neg (by rw [HO.out]; simp)])⟩
  · have hzb : ((zn : Int) == 0) = false := by simp; omega
    have hd : Hid (x.mvd ≠ []) := fun e => h0 (by rw [← HZN.out, e]; rfl)
    clear kT h0 c3
    go_wp2_with (go_at_call 41; refine TL.out.mono ?_; rintro e w' ⟨r, rfl, hr⟩)
    go_ret
    exact ⟨_, rfl, hr (by rw [Ls.flushF, if_neg (fun e => hd.out e.1)])⟩

set_option maxHeartbeats 1000000 in
theorem ltick_any {N B s n : Nat} {v m u : Value} {x : Ls} {w : World} (h : Lkm B s v m u n x w) (hBw : B ≤ w.heap.size) (hx : x.Ok N) (hN : N + 1000 < 4294967296) :
    Calls Tryz.prog 13 #[.pointer (some ⟨s, 0, none⟩)] w fun e w' => ∃ r, e = .returned r ∧ Flp B s v m u w n x.flush r x.tickF w' := by
  have kM := hide1 (lmade_any h hx.own0)
  have kV := hide1 (lmove_any h hBw hx hN)
  have HX := hide1 hx
  have HN := hide1 hN
  obtain ⟨P, hP⟩ : ∃ P : Value → World → Prop, P = fun r w' => Flp B s v m u w n x.flush r x.tickF w' := ⟨_, rfl⟩
  have HP : Hid (∀ r w', Flp B s v m u w n x.flush r x.tickF w' → P r w') := fun r w' h => by rw [hP]; exact h
  suffices hs : Calls Tryz.prog 13 #[.pointer (some ⟨s, 0, none⟩)] w fun e w' => ∃ r, e = .returned r ∧ P r w' by rw [hP] at hs; exact hs
  clear h hBw hx hN hP
  go_enter Tryz.func13, Tryz.ntmps13
  go_wp2_with fail
  refine kM.out.mono ?_
  rintro e w1 ⟨rfl, hw1⟩
  obtain rfl := hw1.symm
  go_wp2_with fail
  refine kV.out.mono ?_
  rintro e W1 ⟨z, rfl, v1, m1, u1, M1, K1, F1, Z1, D1⟩
  have kP := hide1 (pending_any M1.otm (by have h1 := HX.out.mv.kN; have h2 := HN.out; omega) (by have := HX.out.mv.A16; omega) (fun b hb => Nat.le_trans (HX.out.mv.szA b hb) (by decide)))
  change Hid (Calls Tryz.prog 42 _ W1 fun e w' => ∃ z, e = .returned z ∧ Nls _ W1.heap.size w' z (pend (x.k + 1) x.mv.A) ∧ Below W1.heap.size W1 w') at kP
  have M1' := hide1 M1
  have K1' := hide1 K1
  have F1' := hide1 F1
  clear kV kM M1 K1 F1 Z1 D1
  go_wp2_with fail
  refine kP.out.mono ?_
  rintro e W2 ⟨y, rfl, hy, hb2⟩
  have M2 := M1'.out.below hb2 (Nat.le_refl _)
  have kT := hide1 (ltell_any M2 HX.out.mv HN.out hy.rd (fun g hg e => by have h1 := (hy.lt hg).1; have h2 := lt_heap M1'.out.row; omega) (Ls.fms_pend HX.out.mv HN.out))
  have K2 := hide1 (K1'.out.trans (Kp.ofBelow hb2))
  have M2' := hide1 M2
  have HS2 := hide1 hb2.size
  clear kP hy hb2 M2
  have TL : Hid (Calls Tryz.prog 41 #[.pointer (some ⟨s, 0, none⟩), y] W2 fun e w' => ∃ r, e = .returned r ∧ P r w') := by
    refine kT.out.mono ?_
    rintro e w' ⟨r, rfl, hL, hM, hK⟩
    refine ⟨r, rfl, HP.out r w' ⟨v1, m1, u1, hM, K2.out.join hK fun g hg => F1'.out g hg, F1'.out, hL.mono K2.out.size, fun g hg e => ?_⟩⟩
    have h1 := (hL.lt hg).1
    have h2 := (M2'.out.flt e).2
    omega
  clear kT
  go_wp2_with (go_at_call 41; refine TL.out.mono ?_; rintro e w' ⟨r, rfl, hr⟩)
  go_ret
  exact ⟨_, rfl, hr⟩

end Go.Proofs.YtcadlcpccemkbaaGreatDoor

namespace Go.Proofs.YtcadlcpccemkbaaGreatDoor
open Go.RowKit
set_option maxRecDepth 100000
attribute [local go_sem] not_any

/- a list's block is no map -/
theorem Lst.map_ne {B n g : Nat} {w : World} {v m : Value} {A : List ByteArray} {f : Nat → Option ByteArray} (h : Lst B w v A) (hm : Mp w m n f) (hg : v.ownBlock = some g) (hb : mblk m = some g) : False := by
  rcases hm with ⟨rfl, _⟩ | ⟨b, rfl, D, ⟨es, clock, hmb, _⟩, _⟩
  · cases hb
  · cases hb
    rcases h.2 with ⟨rfl, _⟩ | ⟨g', cap, cur, rfl, _, hgg, _⟩
    · cases hg
    · cases hg
      rw [hmb] at hgg
      cases hgg
def Ls.new (own : Nat) : Ls := ⟨own, 0, false, false, 0, [], 0, [], []⟩
theorem Lkm.fresh {s n : Nat} {x : Ls} {w : World} (B : Nat) (hB : B ≤ s) (hA : x.A = []) (hl : x.l = []) (hQ : x.Q = []) (hr : w.heap[s]? = some (.cells #[.int .u32 (x.own : Int), .int .u32 (x.peer : Int), .bool x.sure, .bool x.owed, .int .u32 (x.k : Int), .slice none 0 0, .int .u32 (x.a : Int), .map none, .slice none 0 0] 56 (0, 0))) :
    Lkm B s (.slice none 0 0) (.map none) (.slice none 0 0) n x w := by
  refine ⟨hr, hB, by rw [hA]; exact Lst.nil _ _, by rw [hl]; exact Mp.none _ _, by rw [hQ]; exact Lst.nil _ _, (fun e => by cases e), (fun e => by cases e), (fun e => by cases e), (fun g e => by cases e), (fun g e => by cases e), (fun g e => by cases e), (fun g e => by cases e)⟩
theorem lnew_any (own : Nat) (h0 : 0 < own) (w : World) : Calls Tryz.prog 5 #[.int .u32 (own : Int)] w fun e w' => e = .returned (.tuple #[.pointer (some ⟨w.heap.size, 0, none⟩), .nilIface]) ∧ Lkm w.heap.size w.heap.size (.slice none 0 0) (.map none) (.slice none 0 0) 0 (Ls.new own) w' ∧ Below w.heap.size w w' := by
  have hb : ((own : Int) == 0) = false := by simp; omega
  clear h0
  go_enter Tryz.func5, Tryz.ntmps5
  go_wp2
  refine ret_t2 Tryz.results5 rfl rfl rfl ⟨rfl, Lkm.fresh _ (Nat.le_refl _) rfl rfl rfl (heap_alloc_new _ _), below1 _⟩

theorem past_any (o p : Int) (k fo fp q a : Int) (b : ByteArray) (w : World) : Calls Tryz.prog 67 #[.agg #[.int .u32 o, .int .u32 p], X.fra k fo fp q a b] w fun e w' => e = .returned (.bool (decide (fo < p))) ∧ Below w.heap.size w w' := by
  unfold X.fra
  go_enter Tryz.func67, Tryz.ntmps67
  go_wp2
  go_ret
  exact ⟨rfl, ((Below.refl _ _).alloc (Nat.le_refl _) _).alloc (by simp) _⟩
theorem meant_any (o p : Int) (k fo fp q a : Int) (b : ByteArray) (w : World) : Calls Tryz.prog 69 #[.agg #[.int .u32 o, .int .u32 p], X.fra k fo fp q a b] w fun e w' => e = .returned (.bool (fp == o)) ∧ Below w.heap.size w w' := by
  unfold X.fra
  go_enter Tryz.func69, Tryz.ntmps69
  go_wp2
  go_ret
  exact ⟨rfl, ((Below.refl _ _).alloc (Nat.le_refl _) _).alloc (by simp) _⟩

/- another start is met -/
def Ls.meet (x : Ls) (o : Nat) : Ls := if o = x.peer then x else ⟨x.own, o, false, true, 0, [], 0, [], []⟩
def Ls.anew (x : Ls) (o : Nat) : Bool := decide (o ≠ x.peer ∧ x.peer ≠ 0)
set_option maxHeartbeats 1000000 in
theorem lmeet_any {B s n : Nat} {v m u : Value} {x : Ls} {w : World} (h : Lkm B s v m u n x w) (o : Nat) :
    Calls Tryz.prog 68 #[.pointer (some ⟨s, 0, none⟩), .int .u32 (o : Int)] w fun e w' => e = .returned (.bool (x.anew o)) ∧ Lkp B s v m u w n (x.meet o) w' := by
  obtain ⟨c0, c1, _, _, _⟩ := boxS h.row
  unfold Ls.meet Ls.anew
  by_cases ho : o = x.peer
  · rw [if_pos ho, decide_eq_false (by simp [ho])]
    have hb : ((o : Int) == (x.peer : Int)) = true := by simp; omega
    have H := hide1 h
    clear h ho
    go_enter Tryz.func68, Tryz.ntmps68
    go_wp2
    go_ret
    exact ⟨rfl, Lkp.refl H.out⟩
  · rw [if_neg ho]
    have hb : ((o : Int) == (x.peer : Int)) = false := by simp; omega
    obtain ⟨d, hd⟩ : ∃ d, decide (o ≠ x.peer ∧ x.peer ≠ 0) = d := ⟨_, rfl⟩
    rw [hd]
    have hd' : ((x.peer : Int) != 0) = d := by
      rw [← hd, Bool.eq_iff_iff, decide_eq_true_iff, bne_iff_ne]
      omega
    have H := hide1 h
    have R0 := hide1 h.row
    clear h hd ho
    go_enter Tryz.func68, Tryz.ntmps68
    go_wp2_with (refine wpList_store_row rfl 56 (.tmp 28) (.tmp 27) rfl s #[.int .u32 (x.own : Int), .int .u32 (o : Int), .bool false, .bool true, .int .u32 0, .slice none 0 0, .int .u32 0, .map none, .slice none 0 0] rfl rfl 56 _ R0.out rfl (by kernel_rfl) (by kernel_rfl) ?_)
    go_ret
    have hr : (w.setRow s #[.int .u32 (x.own : Int), .int .u32 (o : Int), .bool false, .bool true, .int .u32 0, .slice none 0 0, .int .u32 0, .map none, .slice none 0 0]).heap[s]? = some (.cells #[.int .u32 (x.own : Int), .int .u32 (o : Int), .bool false, .bool true, .int .u32 0, .slice none 0 0, .int .u32 0, .map none, .slice none 0 0] 56 (0, 0)) := setRow_heap w s _ _ _ _ R0.out
    refine ⟨rfl, .slice none 0 0, .map none, .slice none 0 0, Lkm.fresh B H.out.lo rfl rfl rfl hr, ⟨rfl, rfl, rfl, by simp [World.setRow], fun g _ hg => setRow_other w s g _ (fun e => hg (.inl e))⟩, fun g hg => ?_⟩
    rcases hg with hg | hg | hg | hg
    · exact .inl (.inl hg)
    · cases hg
    · cases hg
    · cases hg

/- what a frame of both starts does -/
def Ls.acked (x : Ls) (a : Nat) : Ls := { x with k := akK x.k x.A a, A := akL x.k x.A a }
def Ls.openX (x : Ls) (k q a : Nat) (b : ByteArray) : Ls := if k = 1 then x else if akC x.k x.A a ≠ 0 ∨ k = 3 then x.acked a else { x.acked a with a := tkA x.a x.l q b, l := tkR x.a x.l q b }
def Ls.openB (x : Ls) (k q a : Nat) (b : ByteArray) : List ByteArray := if k = 1 then [] else if akC x.k x.A a ≠ 0 ∨ k = 3 then [] else tkO x.a x.l q b
def Ls.openC (x : Ls) (k q a : Nat) : Nat := if k = 1 then 0 else if akC x.k x.A a ≠ 0 ∨ k = 3 then akC x.k x.A a else chkC x.a (lk x.l) q

set_option maxHeartbeats 2000000 in
theorem lopen_any {N B s n : Nat} {v m u : Value} {x : Ls} {w : World} (h : Lkm B s v m u n x w) (hBw : B ≤ w.heap.size) (hx : x.Ok N) (hN : N + 1000 < 4294967296) (hn : n < 1000000) (k o p q a : Nat) (b : ByteArray) (hk : 1 ≤ k ∧ k ≤ 3) (hq : q < 4294967296) (hb : b.size ≤ 281474976710656) :
    Calls Tryz.prog 71 #[.pointer (some ⟨s, 0, none⟩), X.fra k o p q a b] w fun e w' => ∃ r, e = .returned (.tuple #[r, .int .i64 (x.openC k q a : Int)]) ∧ Flp B s v m u w (n + 1) (x.openX k q a b) r (x.openB k q a b) w' := by
  have HX := hide1 hx
  have H := hide1 h
  have HB := hide1 hBw
  have HN := hide1 hN
  have Hn := hide1 hn
  have Hq := hide1 hq
  have Hb := hide1 hb
  unfold Ls.openC Ls.openX Ls.openB
  by_cases hk1 : k = 1
  · subst hk1
    rw [if_pos rfl, if_pos rfl, if_pos rfl]
    unfold X.fra
    clear h hx hBw hN hn hq hb hk
    go_enter Tryz.func71, Tryz.ntmps71
    go_wp2
    exact ret_t2 Tryz.results71 rfl rfl rfl ⟨_, rfl, v, m, u, (H.out.below (below1 _) (Nat.le_refl _)).mono (Nat.le_succ _), Kp.ofBelow (below1 _), fun g hg => .inl hg, Lst.nil _ _, fun g hg => by cases hg⟩
  · rw [if_neg hk1, if_neg hk1, if_neg hk1]
    have hkb : ((k : Int) == 1) = false := by simp; omega
    have HK := hide1 hk
    unfold X.fra
    obtain ⟨P, hP⟩ : ∃ P : Value → Int → World → Prop, P = fun r c w' => c = ((if akC x.k x.A a ≠ 0 ∨ k = 3 then akC x.k x.A a else chkC x.a (lk x.l) q : Nat) : Int) ∧ Flp B s v m u w (n + 1) (if akC x.k x.A a ≠ 0 ∨ k = 3 then x.acked a else { x.acked a with a := tkA x.a x.l q b, l := tkR x.a x.l q b }) r (if akC x.k x.A a ≠ 0 ∨ k = 3 then [] else tkO x.a x.l q b) w' := ⟨_, rfl⟩
    suffices hs : Calls Tryz.prog 71 #[.pointer (some ⟨s, 0, none⟩), .agg #[.int .i64 (k : Int), .int .u32 (o : Int), .int .u32 (p : Int), .int .u32 (q : Int), .int .u32 (a : Int), .string b]] w fun e w' => ∃ r c, e = .returned (.tuple #[r, .int .i64 c]) ∧ P r c w' by
      refine hs.mono ?_
      rintro e w' ⟨r, c, rfl, hr⟩
      rw [hP] at hr
      exact ⟨r, by rw [hr.1], hr.2⟩
    have HP := hide1 hP
    clear h hx hBw hN hn hq hb hk hP
    go_enter Tryz.func71, Tryz.ntmps71
    go_upto_region 3 with (fail)
    generalize hX : World.alloc w _ = W0
    have B0 : Hid (Below w.heap.size w W0) := by rw [← hX]; exact below1 _
    have RF := hide1 (hX ▸ heap_alloc_new w _)
    obtain ⟨gf, hgf⟩ : ∃ g, w.heap.size = g := ⟨_, rfl⟩
    have HGF := hide1 hgf
    rw [hgf] at RF ⊢
    clear hX hgf
    refine region_f (F := [5]) (S := fun W => W.cell? ⟨gf, 4, none⟩ = some (.int .u32 (a : Int))) (by kernel_rfl) (X.box6 RF.out).2.2.2.2.1 (fun hS => ?_)
    have BU : Hid (Below w.heap.size w (World.drew W0)) := B0.out.drew
    have RU : Hid ((World.drew W0).heap[gf]? = some (.cells #[.int .i64 (k : Int), .int .u32 (o : Int), .int .u32 (p : Int), .int .u32 (q : Int), .int .u32 (a : Int), .string b] 88 (0, 0))) := RF.out
    generalize World.drew W0 = WU at hS BU RU ⊢
    clear B0 RF
    refine take_p 0 10 (.pointer (some ⟨s, 0, none⟩)) rfl rfl (by kernel_rfl) (by kernel_rfl) (by kernel_rfl) (fun _ _ _ h => h) rfl (fun w => by go_simp) ?_
    try simp only [List.setIfInBounds_toArray, List.set_cons_zero, List.set_cons_succ]
    refine take_p 1 11 (.pointer (some ⟨s, 0, none⟩)) rfl rfl (by kernel_rfl) (by kernel_rfl) (by kernel_rfl) (fun _ _ _ h => h) rfl (fun w => by go_simp) ?_
    try simp only [List.setIfInBounds_toArray, List.set_cons_zero, List.set_cons_succ]
    refine take_p 2 12 (.pointer (some ⟨s, 4, none⟩)) rfl rfl (by kernel_rfl) (by kernel_rfl) (by kernel_rfl) (fun _ _ _ h => h) rfl (fun w => by go_simp) ?_
    try simp only [List.setIfInBounds_toArray, List.set_cons_zero, List.set_cons_succ]
    refine take_p 3 13 (.pointer (some ⟨gf, 4, none⟩)) rfl rfl (by kernel_rfl) (by kernel_rfl) (by kernel_rfl) (fun _ _ _ h => h) rfl (fun w => by go_simp) ?_
    try simp only [List.setIfInBounds_toArray, List.set_cons_zero, List.set_cons_succ]
    refine take_f 4 14 (.int .u32 (a : Int)) [5, 6] rfl rfl (by kernel_rfl) (by kernel_rfl) (by kernel_rfl) (by kernel_rfl) (by kernel_rfl) (by kernel_rfl) (fun _ _ _ h => h) rfl (fun w hSw => by have g0 := hSw; go_simp) hS ?_
    try simp only [List.setIfInBounds_toArray, List.set_cons_zero, List.set_cons_succ]
    have MU := hide1 (H.out.below BU.out (Nat.le_refl _))
    have kA := hide1 (ack_any MU.out.otm (by have h1 := HX.out.kN; have h2 := HN.out; omega) a)
    refine ready_f 5 (o := { dst := some 15, op := Op.call { callee := Callee.value (Operand.func 95), args := #[Operand.tmp 12, Operand.tmp 14], argTypes := #[51, 22] }, type := 29, pos := "link.go:212", after := #[{ on := 2, ground := Ground.data }, { on := 4, ground := Ground.data }], guard := none }) (by kernel_rfl) rfl (fun K hK => ?_)
    go_simp
    refine kA.out.mono ?_
    rintro e W1 ⟨v1, rfl, hO, hK1, hf1⟩
    refine hK.out _ _ (fun h => absurd (by decide) h) ?_
    clear hK K
    try simp only [Act.put, List.setIfInBounds_toArray, List.set_cons_zero, List.set_cons_succ]
    obtain ⟨M1, M2, M3⟩ := MU.out.outed hO hK1 hf1
    have HM1 := hide1 M1
    have K1 := hide1 ((Kp.ofBelow BU.out).trans M2)
    have F1 : Hid (∀ g, Lf s v1 m u g → Lf s v m u g ∨ w.heap.size ≤ g) := fun g hg => by
      rcases M3 g hg with h1 | h1
      · exact .inl h1
      · have := BU.out.size
        exact .inr (by omega)
    have R1 := hide1 ((M2.block gf (lt_heap RU.out) (fun e => by have h1 := (H.out.flt e).2; have h2 := HGF.out; omega)).trans RU.out)
    change Hid (Lkm B s v1 m u n (x.acked a) W1) at HM1
    clear hO hK1 hf1 M1 M2 M3 kA MU RU BU hS
    obtain ⟨cc, hcc⟩ : ∃ c, akC x.k x.A a = c := ⟨_, rfl⟩
    rw [hcc]
    have HCC := hide1 hcc
    clear hcc
    refine take_p 6 6 (.int .i64 (cc : Int)) rfl rfl (by kernel_rfl) (by kernel_rfl) (by kernel_rfl) (fun _ _ _ h => h) rfl (fun w => by go_simp) ?_
    try simp only [List.setIfInBounds_toArray, List.set_cons_zero, List.set_cons_succ]
    refine done_f (by kernel_rfl) ?_ _
    obtain ⟨d0, d1, d2, d3, d4, d5, _⟩ := X.box6 R1.out
    have HW1 : Hid (w.heap.size ≤ W1.heap.size) := K1.out.size
    by_cases hend : cc ≠ 0 ∨ k = 3
    · have HE := hide1 hend
      have fin : Hid (P (.slice none 0 0) (cc : Int) W1) := by
        unfold Hid
        rw [HP.out]
        simp only [HCC.out, if_pos HE.out]
        exact ⟨trivial, v1, m, u, HM1.out.mono (Nat.le_succ _), K1.out, F1.out, Lst.nil _ _, fun g hg => by cases hg⟩
      by_cases hc0 : cc = 0
      · subst hc0
        have hk3 : k = 3 := by
          rcases hend with h1 | h1
          · exact absurd rfl h1
          · exact h1
        subst hk3
        clear hend HE HCC HM1
        go_wp2
        exact ret_t2 Tryz.results71 rfl rfl rfl ⟨_, _, rfl, fin.out⟩
      · have hcb : ((cc : Int) != 0) = true := by simp; omega
        clear hend HE HCC HM1 hc0
        go_wp2
        exact ret_t2 Tryz.results71 rfl rfl rfl ⟨_, _, rfl, fin.out⟩
    · have hc0 : cc = 0 := by omega
      subst hc0
      have hk3 : ((k : Int) == 3) = false := by simp; omega
      have HE := hide1 hend
      have hmx := HX.out.aN
      have kT := fun W (hb : Below W1.heap.size W1 W) => hide1 (take_any (HM1.out.below hb (Nat.le_refl _)).inm (by exact HX.out.hd) (by have := HN.out; change x.a + 100 < _; omega) q Hq.out b Hb.out Hn.out)
      clear hend hmx
      go_upto_region 6 with (fail)
      refine region_f (F := [7]) (S := fun W => W.cell? ⟨gf, 3, none⟩ = some (.int .u32 (q : Int)) ∧ W.cell? ⟨gf, 5, none⟩ = some (.string b)) (by kernel_rfl) ⟨(X.box6 R1.out).2.2.2.1, (X.box6 R1.out).2.2.2.2.2.1⟩ (fun hS => ?_)
      have BU : Hid (Below W1.heap.size W1 (World.drew W1)) := (Below.refl _ _).drew
      have kT1 := hide1 (kT _ BU.out).out
      change Hid (Calls Tryz.prog 96 _ _ fun e w' => ∃ v m', e = .returned (.tuple #[v, .int .i64 (chkC x.a (lk x.l) q)]) ∧ Lst _ w' v (tkO x.a x.l q b) ∧ Inm _ s m' (tkA x.a x.l q b) (n + 1) (lk (tkR x.a x.l q b)) w' ∧ _ ∧ _) at kT1
      have MU := hide1 (HM1.out.below BU.out (Nat.le_refl _))
      generalize World.drew W1 = WU at hS BU MU kT1 ⊢
      clear kT d0 d1 d2 d3 d4 d5
      refine take_p 0 24 (.pointer (some ⟨s, 0, none⟩)) rfl rfl (by kernel_rfl) (by kernel_rfl) (by kernel_rfl) (fun _ _ _ h => h) rfl (fun w => by go_simp) ?_
      try simp only [List.setIfInBounds_toArray, List.set_cons_zero, List.set_cons_succ]
      refine take_p 1 25 (.pointer (some ⟨s, 0, none⟩)) rfl rfl (by kernel_rfl) (by kernel_rfl) (by kernel_rfl) (fun _ _ _ h => h) rfl (fun w => by go_simp) ?_
      try simp only [List.setIfInBounds_toArray, List.set_cons_zero, List.set_cons_succ]
      refine take_p 2 26 (.pointer (some ⟨s, 6, none⟩)) rfl rfl (by kernel_rfl) (by kernel_rfl) (by kernel_rfl) (fun _ _ _ h => h) rfl (fun w => by go_simp) ?_
      try simp only [List.setIfInBounds_toArray, List.set_cons_zero, List.set_cons_succ]
      refine take_p 3 27 (.pointer (some ⟨gf, 3, none⟩)) rfl rfl (by kernel_rfl) (by kernel_rfl) (by kernel_rfl) (fun _ _ _ h => h) rfl (fun w => by go_simp) ?_
      try simp only [List.setIfInBounds_toArray, List.set_cons_zero, List.set_cons_succ]
      refine take_f 4 28 (.int .u32 (q : Int)) [7, 8, 9, 10, 11] rfl rfl (by kernel_rfl) (by kernel_rfl) (by kernel_rfl) (by kernel_rfl) (by kernel_rfl) (by kernel_rfl) (fun _ _ _ h => h) rfl (fun w hSw => by obtain ⟨g0, g1⟩ := hSw; go_simp) hS ?_
      try simp only [List.setIfInBounds_toArray, List.set_cons_zero, List.set_cons_succ]
      refine take_p 5 29 (.pointer (some ⟨gf, 5, none⟩)) rfl rfl (by kernel_rfl) (by kernel_rfl) (by kernel_rfl) (fun _ _ _ h => h) rfl (fun w => by go_simp) ?_
      try simp only [List.setIfInBounds_toArray, List.set_cons_zero, List.set_cons_succ]
      refine take_f 6 30 (.string b) [7, 8, 9, 10, 11] rfl rfl (by kernel_rfl) (by kernel_rfl) (by kernel_rfl) (by kernel_rfl) (by kernel_rfl) (by kernel_rfl) (fun _ _ _ h => h) rfl (fun w hSw => by obtain ⟨g0, g1⟩ := hSw; go_simp) hS ?_
      try simp only [List.setIfInBounds_toArray, List.set_cons_zero, List.set_cons_succ]
      refine ready_f 7 (o := { dst := some 31, op := Op.call { callee := Callee.value (Operand.func 96), args := #[Operand.tmp 26, Operand.tmp 28, Operand.tmp 30], argTypes := #[54, 22, 9] }, type := 141, pos := "link.go:215", after := #[{ on := 2, ground := Ground.data }, { on := 4, ground := Ground.data }, { on := 6, ground := Ground.data }], guard := none }) (by kernel_rfl) rfl (fun K hK => ?_)
      go_simp
      refine kT1.out.mono ?_
      rintro e W2 ⟨r, m1, rfl, hL, hI, hK2, hf2⟩
      refine hK.out _ _ (fun h => absurd (by decide) h) ?_
      clear hK K
      try simp only [Act.put, List.setIfInBounds_toArray, List.set_cons_zero, List.set_cons_succ]
      obtain ⟨cz, hcz⟩ : ∃ c, chkC x.a (lk x.l) q = c := ⟨_, rfl⟩
      rw [hcz]
      obtain ⟨M1, M2, M3⟩ := MU.out.inned (by have := HB.out; have := HW1.out; have := BU.out.size; omega) hI hK2 hf2
      have fin : Hid (P r (cz : Int) W2) := by
        unfold Hid
        rw [HP.out]
        simp only [HCC.out, if_neg HE.out]
        refine ⟨by rw [hcz], v1, m1, u, M1, (K1.out.trans (Kp.ofBelow BU.out)).join M2 F1.out, fun g hg => ?_, hL.mono (by have := HW1.out; have := BU.out.size; omega), fun g hg e => ?_⟩
        · rcases M3 g hg with h1 | h1
          · exact F1.out g h1
          · have h2 := BU.out.size
            have h3 := HW1.out
            exact .inr (by omega)
        · rcases e with e | e | e | e
          · have h1 := (hL.lt hg).1
            have h2 := lt_heap MU.out.row
            omega
          · have h1 := (hL.lt hg).1
            have h2 := (MU.out.out.lt e).2
            omega
          · exact Lst.map_ne hL M1.inn hg e
          · have h1 := (hL.lt hg).1
            have h2 := (MU.out.ln.lt e).2
            omega
      clear hL hI hK2 hf2 M1 M2 M3 kT1 hcz hS
      refine take_p 8 32 (r) rfl rfl (by kernel_rfl) (by kernel_rfl) (by kernel_rfl) (fun _ _ _ h => h) rfl (fun w => by go_simp) ?_
      try simp only [List.setIfInBounds_toArray, List.set_cons_zero, List.set_cons_succ]
      refine take_p 9 33 (.int .i64 (cz : Int)) rfl rfl (by kernel_rfl) (by kernel_rfl) (by kernel_rfl) (fun _ _ _ h => h) rfl (fun w => by go_simp) ?_
      try simp only [List.setIfInBounds_toArray, List.set_cons_zero, List.set_cons_succ]
      refine take_p 10 4 (r) rfl rfl (by kernel_rfl) (by kernel_rfl) (by kernel_rfl) (fun _ _ _ h => h) rfl (fun w => by go_simp) ?_
      try simp only [List.setIfInBounds_toArray, List.set_cons_zero, List.set_cons_succ]
      refine take_p 11 5 (.int .i64 (cz : Int)) rfl rfl (by kernel_rfl) (by kernel_rfl) (by kernel_rfl) (fun _ _ _ h => h) rfl (fun w => by go_simp) ?_
      try simp only [List.setIfInBounds_toArray, List.set_cons_zero, List.set_cons_succ]
      refine done_f (by kernel_rfl) ?_ _
      go_wp2
      exact ret_t2 Tryz.results71 rfl rfl rfl ⟨_, _, rfl, fin.out⟩

end Go.Proofs.YtcadlcpccemkbaaGreatDoor
