/- The program's errors of steps. -/
import Derived.Test.YtogninhgibbfnaaDoorTd
import Derived.Deep.DeepCutAuto
import Derived.Deep.CutBlock
namespace Go.Proofs.YtogninhgibbfnaaDoor
open Go.RowKit Go.Shelf
set_option maxRecDepth 100000
attribute [local go_sem] not_any mf_any

theorem info36 : (Tryd.prog.info? 36).map (fun i => (i.zero, i.size, i.bytes)) = some (some .nilIface, 1, 16) := by kernel_rfl

theorem IsErr.owns {W W' : World} {n0 n1 : Nat} (hn : n0 ≤ n1) (h : Owns W W') : ∀ {k k' : Nat} {e : E} {i : Info}, k ≤ k' → IsErr W n0 k e i → IsErr W' n1 k' e i
  | 0, _, _, _, _, he => he.elim
  | k + 1, 0, _, _, hk, _ => by omega
  | k + 1, k' + 1, e, i, hk, he => by
    have hk' : k ≤ k' := by omega
    rcases he with h1 | ⟨b, c, s, hb, h1, h2, h3⟩ | ⟨b, s, e1, i1, hb, h1, h2, h3, h4⟩ | ⟨b, e1, e2, i1, i2, hb, h1, h2, h3, h4, h5⟩
    · exact .inl h1
    · exact .inr (.inl ⟨b, c, s, by omega, h1, h b _ _ h2 (.inl rfl), h3⟩)
    · exact .inr (.inr (.inl ⟨b, s, e1, i1, by omega, h1, h b _ _ h2 (.inl rfl), IsErr.owns hn h hk' h3, h4⟩))
    · exact .inr (.inr (.inr ⟨b, e1, e2, i1, i2, by omega, h1, h b _ _ h2 (.inr rfl), IsErr.owns hn h hk' h3, IsErr.owns hn h hk' h4, h5⟩))

/- a value that is the error that tells o, nested at most d deep -/
def Val (W : World) (d : Nat) : Option Info → Value → Prop
  | none, x => x = .nilIface
  | some i, x => ∃ e, x = ev e ∧ IsErr W W.heap.size d e i

theorem Val.owns {W W' : World} {d d' : Nat} {o : Option Info} {x : Value} (h : Val W d o x) (ho : Owns W W') (hz : W.heap.size ≤ W'.heap.size) (hd : d ≤ d') : Val W' d' o x := by
  cases o with
  | none => exact h
  | some i =>
    obtain ⟨e, h1, h2⟩ := h
    exact ⟨e, h1, h2.owns hz ho hd⟩

def Holds (W : World) (vs : List Value) (is : List (Option Info)) : Prop := vs.length = is.length ∧ ∀ (j : Nat) o x, is[j]? = some o → vs[j]? = some x → Val W (j + 1) o x

theorem Holds.snoc {W W' : World} {vs : List Value} {is : List (Option Info)} {o : Option Info} {x : Value} (h : Holds W vs is) (ho : Owns W W') (hz : W.heap.size ≤ W'.heap.size) (hx : Val W' (is.length + 1) o x) : Holds W' (vs ++ [x]) (is ++ [o]) := by
  refine ⟨by simp [h.1], fun j p y h1 h2 => ?_⟩
  by_cases hj : j < is.length
  · rw [List.getElem?_append_left hj] at h1
    rw [List.getElem?_append_left (by rw [h.1]; exact hj)] at h2
    exact (h.2 j p y h1 h2).owns ho hz (Nat.le_refl _)
  · have hj' : j = is.length := by
      have := (List.getElem?_eq_some_iff.1 h1).1
      simp at this
      omega
    subst hj'
    simp at h1
    rw [← h.1] at h2
    simp at h2
    subst h1
    subst h2
    exact hx

def vLook (vs : List Value) (x : Int) : Value := (look vs x).getD .nilIface

theorem Holds.look {W : World} {vs : List Value} {is : List (Option Info)} (h : Holds W vs is) (x : Int) : Val W is.length (lookI is x) (vLook vs x) := by
  unfold vLook lookI Go.Proofs.YtogninhgibbfnaaDoor.look
  by_cases hx : x < 0
  · simp [hx, Val]
  · simp only [hx, if_false]
    by_cases hl : x.toNat < is.length
    · have hl' : x.toNat < vs.length := by rw [h.1]; exact hl
      have h1 : is[x.toNat]? = some is[x.toNat] := List.getElem?_eq_getElem hl
      have h2 : vs[x.toNat]? = some vs[x.toNat] := List.getElem?_eq_getElem hl'
      rw [h1, h2]
      exact (h.2 _ _ _ h1 h2).owns (fun b c t hb _ => hb) (Nat.le_refl _) (by omega)
    · have hl' : ¬ x.toNat < vs.length := by rw [h.1]; exact hl
      rw [List.getElem?_eq_none (by omega), List.getElem?_eq_none (by omega)]
      simp [Val]

theorem vals_at {W : World} {base : Nat} {ov : Value} {k : Nat} {vs : List Value} (h : W.ownsRow base 36 1 ov k vs) {j : Nat} {x : Value} (hj : vs[j]? = some x) (hjk : j < k) : ∃ g cap, ov = .slice (some ⟨g, 0, none⟩) k cap ∧ W.cell? ⟨g, j, none⟩ = some x := by
  have hc := fun g => h.cells (g := g)
  rcases h.2 with ⟨rfl, h0⟩ | ⟨g, cap, cur, rfl, _⟩
  · omega
  · refine ⟨g, cap, rfl, ?_⟩
    have := hc g rfl j x hj
    rwa [addr_add] at this

theorem Owns.alloc {W W' : World} (h : Owns W W') (o : Obj) : Owns W (W'.alloc o) := fun b c t hb ht => alloc_keeps W' o b c t (h b c t hb ht) ht

theorem Owns.grown {W W' W2 : World} (h : Owns W W') {base : Nat} {v : Value} {k : Nat} {vs : List Value} (hr : W'.ownsRow base 36 1 v k vs) (hg : W'.grownBy W2 v.ownBlock) : Owns W W2 := fun b c t hb ht => by
  have h1 := h b c t hb ht
  refine (hg.block b (lt_of_heap h1) (fun e => ?_)).trans h1
  obtain ⟨_, c', hc⟩ := row_of_own hr b e.symm
  rw [hc] at h1
  cases h1
  rcases ht with h | h <;> cases h

set_option maxHeartbeats 400000 in
theorem both_right (t : TypeId) (v : Value) (w : World) :
    Calls Tryd.prog 25 #[.nilIface, .iface t v] w fun e w' => e = .returned (.iface t v) ∧ w' = w := by
  go_enter Tryd.func25, Tryd.ntmps25
  go_wp2
  go_ret
  exact ⟨rfl, rfl⟩

set_option maxHeartbeats 400000 in
theorem both_left (t : TypeId) (v : Value) (w : World) :
    Calls Tryd.prog 25 #[.iface t v, .nilIface] w fun e w' => e = .returned (.iface t v) ∧ w' = w := by
  go_enter Tryd.func25, Tryd.ntmps25
  go_wp2
  go_ret
  exact ⟨rfl, rfl⟩

set_option maxHeartbeats 400000 in
theorem both_pair (t t' : TypeId) (v v' : Value) (w : World) :
    Calls Tryd.prog 25 #[.iface t v, .iface t' v'] w fun e w' => e = .returned (.iface 77 (.pointer (some ⟨w.heap.size, 0, none⟩))) ∧ w' = w.alloc (.cells #[.iface t v, .iface t' v'] 79) := by
  go_enter Tryd.func25, Tryd.ntmps25
  go_wp2
  go_ret
  exact ⟨rfl, rfl⟩

/- what the switch leaves: a value, and a world in which it tells the step's answer -/
def Left1 (w wr : World) (lv : Value) (k : Nat) (vs : List Value) (o : Option Info) (x : Value) (wx : World) : Prop :=
  wx.ownsRow w.heap.size 36 1 lv k vs ∧ Below w.heap.size w wx ∧ Owns wr wx ∧ wr.heap.size ≤ wx.heap.size ∧ Val wx (k + 1) o x

theorem Owns.refl (W : World) : Owns W W := fun _ _ _ h _ => h

theorem left_same {w wr : World} {lv : Value} {k : Nat} {vs : List Value} {o : Option Info} {x : Value} (h1 : wr.ownsRow w.heap.size 36 1 lv k vs) (h2 : Below w.heap.size w wr) (ob : Obj) (hx : Val wr (k + 1) o x) : Left1 w wr lv k vs o x (wr.alloc ob) :=
  ⟨h1.alloc _, h2.alloc h2.size _, (Owns.refl wr).alloc _, by simp, hx.owns ((Owns.refl wr).alloc _) (by simp) (Nat.le_refl _)⟩

theorem left_new {w wr : World} {lv : Value} {k : Nat} {vs : List Value} {o : Option Info} {x : Value} (h1 : wr.ownsRow w.heap.size 36 1 lv k vs) (h2 : Below w.heap.size w wr) (ob ob2 : Obj) (hx : Val ((wr.alloc ob).alloc ob2) (k + 1) o x) : Left1 w wr lv k vs o x ((wr.alloc ob).alloc ob2) :=
  ⟨(h1.alloc _).alloc _, (h2.alloc h2.size _).alloc (by have := h2.size; simp; omega) _, ((Owns.refl wr).alloc _).alloc _, by simp; omega, hx⟩

theorem new_block (wr : World) (ob ob2 : Obj) : ((wr.alloc ob).alloc ob2).heap[wr.heap.size + 1]? = some ob2 := by
  have := World.alloc_heap_new (wr.alloc ob) ob2
  rwa [World.size_alloc] at this

theorem Val.form {W : World} {d : Nat} {o : Option Info} {x : Value} (h : Val W d o x) : x = .nilIface ∨ ∃ t v, x = .iface t v := by
  cases o with
  | none => exact .inl h
  | some i =>
    obtain ⟨e, h1, _⟩ := h
    exact .inr ⟨e.1, e.2, h1⟩

def inB (x : Int) (k : Nat) : Bool := decide (0 ≤ x ∧ x < k)

theorem vLook_out {vs : List Value} {is : List (Option Info)} {k : Nat} {x : Int} (h : vs.length = is.length) (hk : is.length = k) (hx : inB x k = false) : vLook vs x = .nilIface := by
  unfold vLook look
  by_cases h0 : x < 0
  · simp [h0]
  · have h1 : ¬ x < k := by simp [inB] at hx; omega
    rw [if_neg h0, List.getElem?_eq_none (by omega)]
    rfl

theorem vLook_in {vs : List Value} {is : List (Option Info)} {k : Nat} {x : Int} (h : vs.length = is.length) (hk : is.length = k) (hx : inB x k = true) : ∃ (y : Value), 0 ≤ x ∧ x < k ∧ vs[x.toNat]? = some y ∧ vLook vs x = y := by
  simp [inB] at hx
  have h1 : x.toNat < vs.length := by omega
  refine ⟨vs[x.toNat], by omega, by omega, List.getElem?_eq_getElem h1, ?_⟩
  unfold vLook look
  rw [if_neg (by omega), List.getElem?_eq_getElem h1]
  rfl

set_option maxHeartbeats 4000000 in
theorem made_any (w : World) (v : Value) (ss : List Rw) (hv : RowsIn w.heap.size w v ss) (hl : ss.length ≤ 1000) :
    Calls Tryd.prog 8 #[v] w fun e w' => ∃ lv vs, e = .returned lv ∧ w'.ownsRow w.heap.size 36 1 lv ss.length vs ∧ Below w.heap.size w w' ∧ Holds w' vs (infosOf ss) := by
  obtain ⟨a, cap, rfl, hr⟩ := hv
  obtain ⟨i0, hi, hz0, hz1, hz2⟩ := info_parts info36
  have HR := hide1 hr
  clear hr
  go_enter Tryd.func8, Tryd.ntmps8
  go_wp2
  go_loopw [3, 4] (fun lv i wr => ∃ (k : Nat) (vs : List Value), k ≤ ss.length ∧ i = .int .i64 k ∧ wr.ownsRow w.heap.size 36 1 lv k vs ∧ Below w.heap.size w wr ∧ Holds wr vs (infosOf (ss.take k))) (fun _ i _ => ss.length - (intOf i).toNat)
  case atStart => exact ⟨0, [], Nat.zero_le _, rfl, World.ownsRow_nil _ _ _ _, Below.refl _ _, ⟨rfl, fun j o x h => by simp [infosOf] at h⟩⟩
  case round =>
    obtain ⟨k, vs, hk, rfl, hrow, hB, hH⟩ := hrel
    by_cases hlt : k < ss.length
    · obtain ⟨g, o, hg, rfl, hc0, hc1, hc2, hc3, hc4⟩ := HR.out k ss[k] (List.getElem?_eq_getElem hlt)
      have hs : ss[k]? = some ss[k] := List.getElem?_eq_getElem hlt
      obtain ⟨s, hs'⟩ : ∃ s, s = ss[k] := ⟨_, rfl⟩
      rw [← hs'] at hc0 hc1 hc2 hc3 hc4 hs
      have hd0 := (hB.cell (p := ⟨g, o + k * 5, none⟩) hg).trans hc0
      have hd1 := (hB.cell (p := ⟨g, o + k * 5 + 1, none⟩) hg).trans hc1
      have hd2 := (hB.cell (p := ⟨g, o + k * 5 + 2, none⟩) hg).trans hc2
      have hd3 := (hB.cell (p := ⟨g, o + k * 5 + 3, none⟩) hg).trans hc3
      have hd4 := (hB.cell (p := ⟨g, o + k * 5 + 4, none⟩) hg).trans hc4
      obtain ⟨is, his⟩ : ∃ is, is = infosOf (ss.take k) := ⟨_, rfl⟩
      have hln : is.length = k := by rw [his, ← (good_of _).1, nodesOf_length]; simp; omega
      rw [← his] at hH
      obtain ⟨la, lc, rfl⟩ := row_form hrow
      have HS := hide1 (And.intro hs (And.intro his hln))
      have HW := hide1 (And.intro hrow (And.intro hB hH))
      have hgl : g < wr.heap.size := Nat.lt_of_lt_of_le hg hB.size
      have hwz := hB.size
      clear hs hs' his hln hrow hc0 hc1 hc2 hc3 hc4 hB hH
      go_upto_region 7 with fail
      go_cut [28] (fun c wx => c = .bool (inB s.a k) ∧ wx = wr.alloc (.cells #[.int .i64 s.kind, .int .i64 s.code, .string s.wh, .int .i64 s.a, .int .i64 s.b] 55))
      case first =>
        by_cases q0 : 0 ≤ s.a
        · by_cases q1 : s.a < k
          · have qe : inB s.a k = true := by simp [inB, q0, q1]
            skip
            go_wp2
            go_meet
            exact ⟨by rw [qe], rfl⟩
          · have qe : inB s.a k = false := by simp [inB, q1]
            skip
            go_wp2
            go_meet
            exact ⟨by rw [qe], rfl⟩
        · have qe : inB s.a k = false := by simp [inB, q0]
          skip
          go_wp2
          go_meet
          exact ⟨by rw [qe], rfl⟩
      obtain ⟨rfl, rfl⟩ := hcut
      go_upto_if 28 with fail
      go_cut [6] (fun c wx => c = vLook vs s.a ∧ wx = wr.alloc (.cells #[.int .i64 s.kind, .int .i64 s.code, .string s.wh, .int .i64 s.a, .int .i64 s.b] 55))
      case first =>
        cases qb : inB s.a k with
        | false =>
          have qe : vLook vs s.a = .nilIface := vLook_out HW.out.2.2.1 HS.out.2.2 qb
          skip
          go_wp2
          go_meet
          exact ⟨by rw [qe], rfl⟩
        | true =>
          obtain ⟨x, q0, q1, hx, he⟩ := vLook_in HW.out.2.2.1 HS.out.2.2 qb
          obtain ⟨ga, ca, hga, hca⟩ := vals_at HW.out.1 hx (by omega)
          cases hga
          have hgal := lt_cell hca
          have HE := hide1 he
          clear he hx
          go_wp2
          go_meet
          exact ⟨HE.out.symm, rfl⟩
      obtain ⟨rfl, rfl⟩ := hcut
      go_upto_region 9 with fail
      go_cut [43] (fun c wx => c = .bool (inB s.b k) ∧ wx = wr.alloc (.cells #[.int .i64 s.kind, .int .i64 s.code, .string s.wh, .int .i64 s.a, .int .i64 s.b] 55))
      case first =>
        by_cases q0 : 0 ≤ s.b
        · by_cases q1 : s.b < k
          · have qe : inB s.b k = true := by simp [inB, q0, q1]
            skip
            go_wp2
            go_meet
            exact ⟨by rw [qe], rfl⟩
          · have qe : inB s.b k = false := by simp [inB, q1]
            skip
            go_wp2
            go_meet
            exact ⟨by rw [qe], rfl⟩
        · have qe : inB s.b k = false := by simp [inB, q0]
          skip
          go_wp2
          go_meet
          exact ⟨by rw [qe], rfl⟩
      obtain ⟨rfl, rfl⟩ := hcut
      go_upto_if 43 with fail
      go_cut [7] (fun c wx => c = vLook vs s.b ∧ wx = wr.alloc (.cells #[.int .i64 s.kind, .int .i64 s.code, .string s.wh, .int .i64 s.a, .int .i64 s.b] 55))
      case first =>
        cases qb : inB s.b k with
        | false =>
          have qe : vLook vs s.b = .nilIface := vLook_out HW.out.2.2.1 HS.out.2.2 qb
          skip
          go_wp2
          go_meet
          exact ⟨by rw [qe], rfl⟩
        | true =>
          obtain ⟨x, q0, q1, hx, he⟩ := vLook_in HW.out.2.2.1 HS.out.2.2 qb
          obtain ⟨ga, ca, hga, hca⟩ := vals_at HW.out.1 hx (by omega)
          cases hga
          have hgal := lt_cell hca
          have HE := hide1 he
          clear he hx
          go_wp2
          go_meet
          exact ⟨HE.out.symm, rfl⟩
      obtain ⟨rfl, rfl⟩ := hcut
      go_upto_block 2 with fail
      go_cut [8] (fun x wx => Left1 w wr (.slice la k lc) k vs (infoOf is s) x wx)
      case first =>
        by_cases p0 : s.kind = 0
        · have q0 : (s.kind == 0) = true := by simp [p0]
          by_cases pc : s.code = 0
          · have HI := hide1 (show infoOf is s = none by simp [infoOf, p0, pc])
            have HC := hide1 (show Calls Tryd.prog 23 #[.int .i64 s.code, .string s.wh] (wr.alloc (.cells #[.int .i64 s.kind, .int .i64 s.code, .string s.wh, .int .i64 s.a, .int .i64 s.b] 55)) fun e w' => e = .returned .nilIface ∧ w' = wr.alloc (.cells #[.int .i64 s.kind, .int .i64 s.code, .string s.wh, .int .i64 s.a, .int .i64 s.b] 55) by rw [pc]; exact new_none _ _)
            clear pc
            clear p0
            go_wp2_with (go_at_call 23; refine HC.out.mono ?_; rintro e w' ⟨rfl, rfl⟩)
            go_meet
            exact left_same HW.out.1 HW.out.2.1 _ (by rw [HI.out]; rfl)
          · have HI := hide1 (show infoOf is s = some (rootI s.code s.wh) by simp [infoOf, p0, pc])
            have HP := hide1 (show (s.code == 0) = false by simp [pc])
            have HC := hide1 (new_some s.code s.wh (wr.alloc (.cells #[.int .i64 s.kind, .int .i64 s.code, .string s.wh, .int .i64 s.a, .int .i64 s.b] 55)) HP.out)
            clear pc
            clear p0
            go_wp2_with (go_at_call 23; refine HC.out.mono ?_; rintro e w' ⟨rfl, rfl⟩)
            go_meet
            refine left_new HW.out.1 HW.out.2.1 _ _ ?_
            rw [HI.out]
            exact ⟨(74, _), rfl, .inr (.inl ⟨_, s.code, s.wh, by simp, rfl, new_block _ _ _, HP.out, rfl⟩)⟩
        · have q0 : (s.kind == 0) = false := by simp [p0]
          by_cases p1 : s.kind = 1
          · have q1 : (s.kind == 1) = true := by simp [p1]
            by_cases pc : s.code = 0
            · have HI := hide1 (show infoOf is s = none by simp [infoOf, p1, pc])
              have qc : (s.code != 0) = false := by simp [pc]
              clear pc
              clear p0 p1
              go_wp2
              go_meet
              exact left_same HW.out.1 HW.out.2.1 _ (by rw [HI.out]; rfl)
            · have HI := hide1 (show infoOf is s = some (errnoI s.code) by simp [infoOf, p1, pc])
              have qc : (s.code != 0) = true := by simp [pc]
              have HP := hide1 (show (s.code == 0) = false by simp [pc])
              clear pc
              clear p0 p1
              go_wp2
              go_meet
              refine left_same HW.out.1 HW.out.2.1 _ ?_
              rw [HI.out]
              exact ⟨(37, .int .i64 s.code), rfl, .inl ⟨s.code, rfl, HP.out, rfl⟩⟩
          · have q1 : (s.kind == 1) = false := by simp [p1]
            by_cases p2 : s.kind = 2
            · have q2 : (s.kind == 2) = true := by simp [p2]
              have hA := HW.out.2.2.look s.a
              rw [HS.out.2.2] at hA
              cases ha : lookI is s.a with
              | none =>
                rw [ha] at hA
                have HI := hide1 (show infoOf is s = none by simp [infoOf, p2, ha])
                have HC := hide1 (show Calls Tryd.prog 24 #[.string s.wh, vLook vs s.a] (wr.alloc (.cells #[.int .i64 s.kind, .int .i64 s.code, .string s.wh, .int .i64 s.a, .int .i64 s.b] 55)) fun e w' => e = .returned .nilIface ∧ w' = wr.alloc (.cells #[.int .i64 s.kind, .int .i64 s.code, .string s.wh, .int .i64 s.a, .int .i64 s.b] 55) by rw [show vLook vs s.a = .nilIface from hA]; exact wrap_none _ _)
                clear hA ha
                clear p0 p1 p2
                go_wp2_with (go_at_call 24; refine HC.out.mono ?_; rintro e w' ⟨rfl, rfl⟩)
                go_meet
                exact left_same HW.out.1 HW.out.2.1 _ (by rw [HI.out]; rfl)
              | some i =>
                rw [ha] at hA
                obtain ⟨ea, hea, hEa⟩ := hA
                have HI := hide1 (show infoOf is s = some (wrapI s.wh i) by simp [infoOf, p2, ha])
                have HC := hide1 (wrap_some s.wh ea.1 ea.2 (wr.alloc (.cells #[.int .i64 s.kind, .int .i64 s.code, .string s.wh, .int .i64 s.a, .int .i64 s.b] 55)))
                change Hid (Calls Tryd.prog 24 #[.string s.wh, ev ea] _ _) at HC
                rw [← hea] at HC
                have HE := hide1 (And.intro hea hEa)
                clear hea hEa ha
                clear p0 p1 p2
                go_wp2_with (go_at_call 24; refine HC.out.mono ?_; rintro e w' ⟨rfl, rfl⟩)
                go_meet
                refine left_new HW.out.1 HW.out.2.1 _ _ ?_
                rw [HI.out]
                exact ⟨(74, _), rfl, .inr (.inr (.inl ⟨_, s.wh, ea, i, by simp, rfl, new_block _ _ _, HE.out.2.owns (by simp; omega) (((Owns.refl wr).alloc _).alloc _) (Nat.le_refl _), rfl⟩))⟩
            · have q2 : (s.kind == 2) = false := by simp [p2]
              by_cases p3 : s.kind = 3
              · have q3 : (s.kind == 3) = true := by simp [p3]
                have hA := HW.out.2.2.look s.a
                have hB := HW.out.2.2.look s.b
                rw [HS.out.2.2] at hA hB
                cases ha : lookI is s.a with
                | none =>
                  rw [ha] at hA
                  cases hb : lookI is s.b with
                  | none =>
                    rw [hb] at hB
                    have HI := hide1 (show infoOf is s = none by simp [infoOf, p3, ha, hb])
                    have HC := hide1 (show Calls Tryd.prog 25 #[vLook vs s.a, vLook vs s.b] (wr.alloc (.cells #[.int .i64 s.kind, .int .i64 s.code, .string s.wh, .int .i64 s.a, .int .i64 s.b] 55)) fun e w' => e = .returned .nilIface ∧ w' = wr.alloc (.cells #[.int .i64 s.kind, .int .i64 s.code, .string s.wh, .int .i64 s.a, .int .i64 s.b] 55) by rw [show vLook vs s.a = .nilIface from hA, show vLook vs s.b = .nilIface from hB]; exact both_nil _)
                    clear hA hB ha hb
                    clear p0 p1 p2 p3
                    go_wp2_with (go_at_call 25; refine HC.out.mono ?_; rintro e w' ⟨rfl, rfl⟩)
                    go_meet
                    exact left_same HW.out.1 HW.out.2.1 _ (by rw [HI.out]; rfl)
                  | some j =>
                    rw [hb] at hB
                    obtain ⟨eb, heb, hEb⟩ := hB
                    have HI := hide1 (show infoOf is s = some j by simp [infoOf, p3, ha, hb])
                    have HC := hide1 (show Calls Tryd.prog 25 #[vLook vs s.a, vLook vs s.b] (wr.alloc (.cells #[.int .i64 s.kind, .int .i64 s.code, .string s.wh, .int .i64 s.a, .int .i64 s.b] 55)) fun e w' => e = .returned (ev eb) ∧ w' = wr.alloc (.cells #[.int .i64 s.kind, .int .i64 s.code, .string s.wh, .int .i64 s.a, .int .i64 s.b] 55) by rw [show vLook vs s.a = .nilIface from hA, heb]; exact both_right _ _ _)
                    have HE := hide1 (And.intro heb hEb)
                    clear hA heb hEb ha hb
                    clear p0 p1 p2 p3
                    go_wp2_with (go_at_call 25; refine HC.out.mono ?_; rintro e w' ⟨rfl, rfl⟩)
                    go_meet
                    refine left_same HW.out.1 HW.out.2.1 _ ?_
                    rw [HI.out]
                    exact ⟨eb, rfl, HE.out.2.owns (Nat.le_refl _) (Owns.refl _) (by omega)⟩
                | some i =>
                  rw [ha] at hA
                  obtain ⟨ea, hea, hEa⟩ := hA
                  cases hb : lookI is s.b with
                  | none =>
                    rw [hb] at hB
                    have HI := hide1 (show infoOf is s = some i by simp [infoOf, p3, ha, hb])
                    have HC := hide1 (show Calls Tryd.prog 25 #[vLook vs s.a, vLook vs s.b] (wr.alloc (.cells #[.int .i64 s.kind, .int .i64 s.code, .string s.wh, .int .i64 s.a, .int .i64 s.b] 55)) fun e w' => e = .returned (ev ea) ∧ w' = wr.alloc (.cells #[.int .i64 s.kind, .int .i64 s.code, .string s.wh, .int .i64 s.a, .int .i64 s.b] 55) by rw [show vLook vs s.b = .nilIface from hB, hea]; exact both_left _ _ _)
                    have HE := hide1 (And.intro hea hEa)
                    clear hB hea hEa ha hb
                    clear p0 p1 p2 p3
                    go_wp2_with (go_at_call 25; refine HC.out.mono ?_; rintro e w' ⟨rfl, rfl⟩)
                    go_meet
                    refine left_same HW.out.1 HW.out.2.1 _ ?_
                    rw [HI.out]
                    exact ⟨ea, rfl, HE.out.2.owns (Nat.le_refl _) (Owns.refl _) (by omega)⟩
                  | some j =>
                    rw [hb] at hB
                    obtain ⟨eb, heb, hEb⟩ := hB
                    have HI := hide1 (show infoOf is s = some (pairI i j) by simp [infoOf, p3, ha, hb])
                    have HC := hide1 (show Calls Tryd.prog 25 #[vLook vs s.a, vLook vs s.b] (wr.alloc (.cells #[.int .i64 s.kind, .int .i64 s.code, .string s.wh, .int .i64 s.a, .int .i64 s.b] 55)) fun e w' => e = .returned (.iface 77 (.pointer (some ⟨(wr.alloc (.cells #[.int .i64 s.kind, .int .i64 s.code, .string s.wh, .int .i64 s.a, .int .i64 s.b] 55)).heap.size, 0, none⟩))) ∧ w' = (wr.alloc (.cells #[.int .i64 s.kind, .int .i64 s.code, .string s.wh, .int .i64 s.a, .int .i64 s.b] 55)).alloc (.cells #[ev ea, ev eb] 79) by rw [hea, heb]; exact both_pair _ _ _ _ _)
                    have HE := hide1 (And.intro hEa hEb)
                    clear hea hEa heb hEb ha hb
                    clear p0 p1 p2 p3
                    go_wp2_with (go_at_call 25; refine HC.out.mono ?_; rintro e w' ⟨rfl, rfl⟩)
                    go_meet
                    refine left_new HW.out.1 HW.out.2.1 _ _ ?_
                    rw [HI.out]
                    exact ⟨(77, _), rfl, .inr (.inr (.inr ⟨_, ea, eb, i, j, by simp, rfl, new_block _ _ _, HE.out.1.owns (by simp; omega) (((Owns.refl wr).alloc _).alloc _) (Nat.le_refl _), HE.out.2.owns (by simp; omega) (((Owns.refl wr).alloc _).alloc _) (Nat.le_refl _), rfl⟩))⟩
              · have q3 : (s.kind == 3) = false := by simp [p3]
                have HI := hide1 (show infoOf is s = none by simp [infoOf, p0, p1, p2, p3])
                clear p0 p1 p2 p3
                go_wp2
                go_meet
                exact left_same HW.out.1 HW.out.2.1 _ (by rw [HI.out]; rfl)
      obtain ⟨h1, h2, h3, h4, h5⟩ := hcut
      have HW := hide1 (And.intro h1 (And.intro h2 (And.intro h3 (And.intro h4 (And.intro h5 HW.out.2.2)))))
      have hwz2 := h2.size
      clear h1 h2 h3 h4 h5
      rcases HW.out.2.2.2.2.1.form with hu | ⟨tx, vx, hu⟩
      · subst hu
        go_wp2_with (at_builtin; go_must (refine wpList_append_own _ rfl _ _ 25 rfl w.heap.size 36 i0 .nilIface 1 16 Tryd.underlying25 hi hz0 hz1 hz2 rfl (by decide) _ _ _ rfl (HW.out.1.alloc _) ⟨wc.heap.size, 0, none⟩ 1 1 [_] rfl rfl (cell_one_new _ _ _) (by simp [Value.oneCell']) (by unfold maxLen; omega) (by omega) (by simp; omega) ?_); intro v' w1 hown' hgrow _)
        go_roundw
        case rel =>
          refine ⟨k + 1, _, by omega, by go_num, hown', (HW.out.2.1.alloc HW.out.2.1.size _).grown hgrow (by simp; omega) (fun b hb => (HW.out.1.lt b hb).1), ?_⟩
          rw [take_snoc' ss _ s HS.out.1, infosOf_snoc, ← HS.out.2.1]
          have ho1 : Owns wc w1 := ((Owns.refl wc).alloc _).grown (HW.out.1.alloc _) hgrow
          have hz1 : wc.heap.size ≤ w1.heap.size := by have := hgrow.size; simp at this; omega
          have h5 := HW.out.2.2.2.2.1
          refine HW.out.2.2.2.2.2.snoc (fun b c t hb ht => ho1 b c t (HW.out.2.2.1 b c t hb ht) ht) (Nat.le_trans HW.out.2.2.2.1 hz1) ?_
          rw [HS.out.2.2]
          exact h5.owns ho1 hz1 (Nat.le_refl _)
        case measure => simp [intOf]; omega
      · subst hu
        go_wp2_with (at_builtin; go_must (refine wpList_append_own _ rfl _ _ 25 rfl w.heap.size 36 i0 .nilIface 1 16 Tryd.underlying25 hi hz0 hz1 hz2 rfl (by decide) _ _ _ rfl (HW.out.1.alloc _) ⟨wc.heap.size, 0, none⟩ 1 1 [_] rfl rfl (cell_one_new _ _ _) (by simp [Value.oneCell']) (by unfold maxLen; omega) (by omega) (by simp; omega) ?_); intro v' w1 hown' hgrow _)
        go_roundw
        case rel =>
          refine ⟨k + 1, _, by omega, by go_num, hown', (HW.out.2.1.alloc HW.out.2.1.size _).grown hgrow (by simp; omega) (fun b hb => (HW.out.1.lt b hb).1), ?_⟩
          rw [take_snoc' ss _ s HS.out.1, infosOf_snoc, ← HS.out.2.1]
          have ho1 : Owns wc w1 := ((Owns.refl wc).alloc _).grown (HW.out.1.alloc _) hgrow
          have hz1 : wc.heap.size ≤ w1.heap.size := by have := hgrow.size; simp at this; omega
          have h5 := HW.out.2.2.2.2.1
          refine HW.out.2.2.2.2.2.snoc (fun b c t hb ht => ho1 b c t (HW.out.2.2.1 b c t hb ht) ht) (Nat.le_trans HW.out.2.2.2.1 hz1) ?_
          rw [HS.out.2.2]
          exact h5.owns ho1 hz1 (Nat.le_refl _)
        case measure => simp [intOf]; omega
    · have : k = ss.length := by omega
      subst this
      go_wp2
      go_ret
      rw [List.take_length] at hH
      exact ⟨_, vs, rfl, hrow, hB, hH⟩

end Go.Proofs.YtogninhgibbfnaaDoor
