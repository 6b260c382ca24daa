/- Pure: three rounds between ends that know each other. -/
import Derived.Test.YtcadlcpccemkbaaLd
namespace Go.Proofs.Ytcadlcpccemkbaa
set_option maxRecDepth 100000

theorem pend_at : ∀ (k : Nat) (S : List ByteArray) (p : Nat), p < S.length → kAt (pend k S) p = k + p ∧ sAt (pend k S) p = S.getD p ByteArray.empty
  | _, [], p, h => by simp at h
  | k, s :: S, 0, _ => ⟨rfl, rfl⟩
  | k, s :: S, p + 1, h => by
    obtain ⟨h1, h2⟩ := pend_at (k + 1) S p (by simpa using h)
    refine ⟨?_, h2⟩
    have : kAt (pend k (s :: S)) (p + 1) = kAt (pend (k + 1) S) p := rfl
    rw [this, h1]
    omega
/- what Tick tells: all that is pending, or an answer -/
theorem tickL_num {N : Nat} {z : Ls} (h : z.Ok N) (hN : N + 1000 < 4294967296) (hp : 0 < z.peer) (hs : z.sure = true) : (∀ t ∈ tickL z, ackOf t = z.a + 1) ∧ (z.A ≠ [] → ∀ j t, (tickL z)[j]? = some t → isD t = true ∧ numOf t = z.k + 1 + j) ∧ (z.A ≠ [] → (tickL z).length = z.A.length) := by
  have ha := h.aN
  have hkn := h.kN
  have hf : ∀ p ∈ pend (z.k + 1) z.A, Fit 2 z.own z.peer p.1 (z.a + 1) p.2 := fun p hp' => by
    have hm := Ls.fms_pend h hN
    obtain ⟨h1, h2, h3⟩ := hm.num p hp'
    exact ⟨chk_data h.own0 hp h1 h3, h.own, h.peer, h2, by omega⟩
  unfold tickL Ls.tell
  by_cases hm : pend (z.k + 1) z.A = []
  · rw [if_pos hm]
    have hA : z.A = [] := by
      cases e : z.A with
      | nil => rfl
      | cons => rw [e] at hm; cases hm
    refine ⟨fun t ht => ?_, fun e => absurd hA e, fun e => absurd hA e⟩
    rw [List.mem_singleton.1 ht, Ls.pln, if_pos hs]
    exact tx_a ⟨chk_quiet h.own0 hp, h.own, h.peer, by decide, by omega⟩
  · rw [if_neg hm]
    refine ⟨fun t ht => ?_, fun _ j t hj => ?_, fun _ => by rw [List.length_map, pend_length]⟩
    · obtain ⟨p, hp', rfl⟩ := List.mem_map.1 ht
      exact tx_a (hf p hp')
    · rw [List.getElem?_map] at hj
      obtain ⟨p, hp', rfl⟩ := Option.map_eq_some_iff.1 hj
      have hmem := List.mem_of_getElem? hp'
      have hl := (List.getElem?_eq_some_iff.1 hp').1
      rw [pend_length] at hl
      have hat := (pend_at (z.k + 1) z.A j hl).1
      have hkA : kAt (pend (z.k + 1) z.A) j = p.1 := by unfold kAt; rw [List.getD_eq_getElem?_getD, hp']; rfl
      rw [hkA] at hat
      refine ⟨?_, ?_⟩
      · unfold isD Ls.frm
        rw [tx_k (hf p hmem)]
        rfl
      · unfold Ls.frm
        rw [tx_q (hf p hmem), hat]

/- all that was pending behind a half comes in the next one -/
theorem told_all {N : Nat} {y z : Ls} {O O2 : List ByteArray} {y2 : Ls} (hz : z.Ok N) (hN : N + 1000 < 4294967296) (hp : 0 < z.peer) (hs : z.sure = true) (hO : ∃ pre, O = pre ++ tickL z) (hka : z.k ≤ y.a) (r2 : Rh y O y2 O2) : z.k + z.A.length ≤ y2.a := by
  obtain ⟨pre, rfl⟩ := hO
  obtain ⟨h1, h2, h3⟩ := tickL_num hz hN hp hs
  by_cases hA : z.A = []
  · rw [hA]
    exact Nat.le_trans hka r2.a
  · have := r2.told pre (tickL z) z.k rfl (h2 hA) hka
    rw [h3 hA] at this
    exact this
theorem ack_all {N : Nat} {y z : Ls} {O O2 : List ByteArray} {y2 : Ls} (hz : z.Ok N) (hN : N + 1000 < 4294967296) (hp : 0 < z.peer) (hs : z.sure = true) (hO : ∃ pre, O = pre ++ tickL z) (r2 : Rh y O y2 O2) : z.a ≤ y2.k := by
  obtain ⟨pre, rfl⟩ := hO
  obtain ⟨h1, _, _⟩ := tickL_num hz hN hp hs
  obtain ⟨_, hl⟩ := tickL_len hz
  obtain ⟨t, ht⟩ := List.exists_mem_of_length_pos (l := tickL z) (by omega)
  have := r2.ack t (by simp [ht])
  rw [h1 t ht] at this
  omega

/- a round: x's half, then y's -/
def rnd (x y : Ls) (I : List ByteArray) : Ls × Ls × List ByteArray := ((hlf x I).1, (hlf y (hlf x I).2).1, (hlf y (hlf x I).2).2)
def un (x y : Ls) : Nat := x.Q.length + y.Q.length
def tot (x : Ls) : Nat := x.A.length + x.Q.length
/- two ends at the begin of a round -/
structure Bg (N : Nat) (x y : Ls) (I : List ByteArray) : Prop where
  g : Gd N x y I []
  ox : x.owed = false
  oy : y.owed = false
  len : I.length ≤ 60
theorem put60_len (F : List ByteArray) : (put60 [] F).length ≤ 60 := put60_le (by simp)
theorem hlf_len (x : Ls) (I : List ByteArray) : (pro x [] I).2.length ≤ 60 → (hlf x I).2.length ≤ 60 := fun h => put60_le h
theorem pro_len : ∀ (I : List ByteArray) (x : Ls) (wy : List ByteArray), wy.length ≤ 60 → (pro x wy I).2.length ≤ 60
  | [], _, _, h => h
  | _ :: I, _, _, h => pro_len I _ _ (put60_le h)
structure Rr (N : Nat) (x y : Ls) (I : List ByteArray) (x1 y1 : Ls) (O1 I1 : List ByteArray) : Prop where
  h1 : Rh x I x1 O1
  h2 : Rh y O1 y1 I1
  g1 : Gd (N + 960) y x1 O1 []
  b : Bg (N + 1920) x1 y1 I1
theorem rnd_g {N : Nat} {x y : Ls} {I : List ByteArray} (h : Bg N x y I) (hN : N + 10000 < 4294967296) : Rr N x y I (rnd x y I).1 (rnd x y I).2.1 (hlf x I).2 (rnd x y I).2.2 := by
  have hl := h.len
  obtain ⟨g1, r1⟩ := hlf_g h.g (by omega) h.ox
  have g1' := g1.symm.mono (N' := N + 960) (by omega)
  have hl1 : (hlf x I).2.length ≤ 60 := hlf_len _ _ (pro_len _ _ _ (by simp))
  obtain ⟨g2, r2⟩ := hlf_g g1' (by omega) h.oy
  have hl2 : (hlf y (hlf x I).2).2.length ≤ 60 := hlf_len _ _ (pro_len _ _ _ (by simp))
  exact ⟨r1, r2, g1', g2.symm.mono (by omega), r1.owed, r2.owed, hl2⟩

theorem drop16 {z z2 : Ls} {s : Nat} (e1 : z.k + z.A.length + z.Q.length = s) (e2 : z2.k + z2.A.length + z2.Q.length = s) (hf : z.A.length = 16 ∨ z.Q = []) (hk : z.k + z.A.length ≤ z2.k) : tot z2 ≤ tot z - 16 ∨ tot z2 = 0 := by
  unfold tot
  rcases hf with h | h
  · left; omega
  · right; rw [h] at e1; simp at e1; omega
theorem three {N : Nat} {x y : Ls} {I : List ByteArray} (h : Bg N x y I) (hN : N + 20000 < 4294967296) :
    ∃ x3 y3 I3, rnd (rnd (rnd x y I).1 (rnd x y I).2.1 (rnd x y I).2.2).1 (rnd (rnd x y I).1 (rnd x y I).2.1 (rnd x y I).2.2).2.1 (rnd (rnd x y I).1 (rnd x y I).2.1 (rnd x y I).2.2).2.2 = (x3, y3, I3) ∧ Bg (N + 5760) x3 y3 I3 ∧ un x3 y3 ≤ un x y ∧ tot x3 ≤ tot x ∧ tot y3 ≤ tot y ∧
      (un x3 y3 + 29 ≤ un x y ∨ ((tot x3 ≤ tot x - 16 ∨ tot x3 = 0) ∧ (tot y3 ≤ tot y - 16 ∨ tot y3 = 0))) := by
  have a := rnd_g h (by omega)
  generalize rnd x y I = R1 at *
  obtain ⟨x1, y1, I1⟩ := R1
  change Rr N x y I x1 y1 (hlf x I).2 I1 at a
  generalize (hlf x I).2 = O1 at *
  show ∃ x3 y3 I3, rnd (rnd x1 y1 I1).1 (rnd x1 y1 I1).2.1 (rnd x1 y1 I1).2.2 = (x3, y3, I3) ∧ _
  have b := rnd_g a.b (by omega)
  generalize rnd x1 y1 I1 = R2 at *
  obtain ⟨x2, y2, I2⟩ := R2
  change Rr (N + 1920) x1 y1 I1 x2 y2 (hlf x1 I1).2 I2 at b
  generalize (hlf x1 I1).2 = O2 at *
  show ∃ x3 y3 I3, rnd x2 y2 I2 = (x3, y3, I3) ∧ _
  have c := rnd_g b.b (by omega)
  generalize rnd x2 y2 I2 = R3 at *
  obtain ⟨x3, y3, I3⟩ := R3
  change Rr (N + 1920 + 1920) x2 y2 I2 x3 y3 (hlf x2 I2).2 I3 at c
  generalize (hlf x2 I2).2 = O3 at *
  refine ⟨x3, y3, I3, rfl, ⟨c.b.g.mono (by omega), c.b.ox, c.b.oy, c.b.len⟩, ?_⟩
  have q1 := a.h1.Q; have q2 := a.h2.Q; have q3 := b.h1.Q; have q4 := b.h2.Q; have q5 := c.h1.Q; have q6 := c.h2.Q
  have s1 := a.h1.sum; have s2 := a.h2.sum; have s3 := b.h1.sum; have s4 := b.h2.sum; have s5 := c.h1.sum; have s6 := c.h2.sum
  have k1 := a.h1.k; have k2 := a.h2.k; have k3 := b.h1.k; have k4 := b.h2.k; have k5 := c.h1.k; have k6 := c.h2.k
  refine ⟨by unfold un; omega, by unfold tot; omega, by unfold tot; omega, ?_⟩
  by_cases hd : un x3 y3 + 29 ≤ un x y
  · exact .inl hd
  · right
    unfold un at hd
    have d1 := a.h1.dat; have d2 := a.h2.dat; have d3 := b.h1.dat; have d4 := b.h2.dat
    have tY1 := a.h2.all (by omega)
    have tX2 := b.h1.all (by omega)
    have tY2 := b.h2.all (by omega)
    have pX2 : 0 < x2.peer := b.g1.oy.sp b.g1.sy
    have pY1 : 0 < y1.peer := a.b.g.oy.sp a.b.g.sy
    have pY2 : 0 < y2.peer := b.b.g.oy.sp b.b.g.sy
    -- y's
    have e1 := told_all a.b.g.oy (by omega) pY1 a.b.g.sy tY1 (a.b.g.mx.num a.b.g.px a.b.g.py).1 b.h1
    have e2 := ack_all b.g1.oy (by omega) pX2 b.g1.sy tX2 b.h2
    -- x's
    have e3 := told_all b.g1.oy (by omega) pX2 b.g1.sy tX2 (b.g1.mx.num b.g1.px b.g1.py).1 b.h2
    have e4 := ack_all b.b.g.oy (by omega) pY2 b.b.g.sy tY2 c.h1
    have fx := drop16 (z := x2) (z2 := x3) rfl (by omega) b.h1.full (by omega)
    have fy := drop16 (z := y1) (z2 := y2) rfl (by omega) a.h2.full (by omega)
    have m1 : tot y3 ≤ tot y2 := by unfold tot; omega
    have m2 : tot x2 ≤ tot x := by unfold tot; omega
    have m3 : tot y1 ≤ tot y := by unfold tot; omega
    exact ⟨by omega, by omega⟩

end Go.Proofs.Ytcadlcpccemkbaa
