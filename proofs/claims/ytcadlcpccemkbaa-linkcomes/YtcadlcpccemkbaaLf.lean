/- Pure: two ends come to know each other. -/
import Derived.Test.YtcadlcpccemkbaaLe
namespace Go.Proofs.Ytcadlcpccemkbaa
set_option maxRecDepth 100000

structure Gm (N : Nat) (x y : Ls) (wx wy : List ByteArray) : Prop where
  ox : x.Ok N
  oy : y.Ok N
  mx : Mu x y wx
  my : Mu y x wy
  px : x.peer ≤ y.own
  py : y.peer ≤ x.own
  zx : x.peer = y.own → y.peer ≠ x.own → x.a = 0 ∧ x.l = []
  zy : y.peer = x.own → x.peer ≠ y.own → y.a = 0 ∧ y.l = []
theorem Gm.symm {N : Nat} {x y : Ls} {wx wy : List ByteArray} (h : Gm N x y wx wy) : Gm N y x wy wx := ⟨h.oy, h.ox, h.my, h.mx, h.py, h.px, h.zy, h.zx⟩
theorem Gm.mono {N N' : Nat} {x y : Ls} {wx wy : List ByteArray} (h : Gm N x y wx wy) (hn : N ≤ N') : Gm N' x y wx wy := ⟨h.ox.mono hn, h.oy.mono hn, h.mx, h.my, h.px, h.py, h.zx, h.zy⟩
theorem Gm.tick {N : Nat} {x y : Ls} {wx wy : List ByteArray} (h : Gm N x y wx wy) (hN : N + 1000 < 4294967296) : Gm N x.flush y wx (put60 wy x.tickF) :=
  ⟨h.ox.flush, h.oy, h.mx.tells, h.my.told h.ox fun t ht => (tick_fn (P := Any) h.ox hN h.px (fun _ _ => trivial) t ht), h.px, h.py, h.zx, h.zy⟩
theorem recv_own {N : Nat} {P : Nat → Nat → Nat → Prop} {x y : Ls} {wx wy : List ByteArray} (h : Gm N x y wx wy) {t : ByteArray} (ht : Fn P x y t) : (x.recvX t).own = x.own ∧ (x.recvX t).peer ≤ y.own ∧ x.peer ≤ (x.recvX t).peer := by
  obtain ⟨k, o, p, q, a, b, rfl, hf, _, h1, _⟩ := ht
  rw [recvX_tx hf]
  obtain ⟨e1, e2⟩ := takeX_own x k o p q a b
  refine ⟨e1, ?_, ?_⟩
  · rw [e2]
    have := h.px
    split <;> omega
  · rw [e2]
    split <;> omega
theorem Fn.takes {P P' : Nat → Nat → Nat → Prop} {x y : Ls} {s t : ByteArray} (h : Fn P y x s) (ht : Fn P' x y t) (hpx : (x.recvX t).peer ≤ y.own) (hle : x.peer ≤ (x.recvX t).peer) : Fn P y (x.recvX t) s := by
  obtain ⟨k, o, p, q, a, b, rfl, hf, _⟩ := ht
  rw [recvX_tx hf] at hpx hle ⊢
  obtain ⟨e1, e2⟩ := takeX_own x k o p q a b
  have hk := takeX_keeps x k o p q a b
  by_cases hp : (x.takeX k o p q a b).peer = x.peer
  · exact h.same rfl e1 hp (hk hp).1 (hk hp).2
  · obtain ⟨k', o', p', q', a', b', e', hf', g0, g1, g2, g3, g4⟩ := h
    refine ⟨k', o', p', q', a', b', e', hf', g0, e1 ▸ g1, g2, fun eo => ?_, fun eo ep => ?_⟩
    · have := g3 (e1 ▸ eo); omega
    · have := g3 (e1 ▸ eo); omega
theorem Gm.recv {N : Nat} {x y : Ls} {t : ByteArray} {I wy : List ByteArray} (h : Gm N x y (t :: I) wy) (hN : N + 2000 < 4294967296) : Gm (N + 16) (x.recvX t).flush y I (put60 wy (x.recvX t).flushF) := by
  have ht := h.mx.frm t (by simp)
  obtain ⟨e1, e2, e3⟩ := recv_own h ht
  have hO := h.ox.recvX t
  have m1 := ((h.mx.less (wx' := I) fun s hs => by simp [hs]).arrives (fun e => (h.oy.ns e).2.2) h.py ht).tells
  have m2 := (h.my.taken h.py h.zy ht).told hO fun s hs => flush_fn (P := Any) hO (by omega) e2 (fun _ _ => trivial) s hs
  refine ⟨hO.flush, h.oy.mono (by omega), m1, m2, e2, e1 ▸ h.py, fun g1 g2 => ?_, fun g1 g2 => h.zy (g1.trans e1) fun e => g2 ?_⟩
  · change (x.recvX t).peer = y.own at g1
    change y.peer ≠ (x.recvX t).own at g2
    change (x.recvX t).a = 0 ∧ (x.recvX t).l = []
    rw [e1] at g2
    obtain ⟨k, o, p, q, a, b, rfl, hf, _, h1, h2, h3, h4⟩ := ht
    rw [recvX_tx hf] at g1 ⊢
    obtain ⟨_, f2⟩ := takeX_own x k o p q a b
    rw [f2] at g1
    unfold Ls.takeX
    by_cases hs : o < x.peer
    · rw [if_pos hs] at g1 ⊢
      exact h.zx g1 g2
    · rw [if_neg hs] at g1 ⊢
      have hm : (x.meet o).a = 0 ∧ (x.meet o).l = [] := by
        by_cases hp : o = x.peer
        · rw [meet_old hp]; exact h.zx (hp ▸ g1) g2
        · obtain ⟨m1, m2, _⟩ := meet_new hp
          exact ⟨m1, m2⟩
      have hp : p ≠ x.own := fun e => by
        have := h3 g1
        have := h.py
        omega
      rw [if_pos hp]
      exact hm
  · change (x.recvX t).peer = y.own
    have := h.px
    omega

/- what holds of x behind a frame, and what it tells then -/
theorem pro_out {y : Ls} (c : Nat) (PI PO : Nat → Nat → Nat → Prop) (R : Ls → Prop) (hfl : ∀ z, R z → R z.flush)
    (hst : ∀ (N : Nat) (z : Ls) (t : ByteArray) (I wy : List ByteArray), z.own = c → Gm N z y (t :: I) wy → Fn PI z y t → R (z.recvX t)) (hpo : ∀ z, z.own = c → R z → ∀ k, (z.sure = true → k ≠ 1) → PO k z.own z.peer) :
    ∀ (I : List ByteArray) (N : Nat) (x : Ls) (wy : List ByteArray), x.own = c → Gm N x y I wy → N + 16 * I.length + 2000 < 4294967296 → (∀ t ∈ I, Fn PI x y t) → (I = [] → R x) → (∀ t ∈ wy, Fn PO y x t) →
      Gm (N + 16 * I.length) (pro x wy I).1 y [] (pro x wy I).2 ∧ R (pro x wy I).1 ∧ (∀ t ∈ (pro x wy I).2, Fn PO y (pro x wy I).1 t) ∧ (pro x wy I).1.own = c
  | [], N, x, wy, hc, h, _, _, hr, hw => ⟨h, hr rfl, hw, hc⟩
  | t :: I, N, x, wy, hc, h, hN, hI, _, hw => by
    rw [List.length_cons] at hN ⊢
    have ht := hI t (by simp)
    obtain ⟨e1, e2, e3⟩ := recv_own h ht
    have hO := h.ox.recvX t
    have hR := hst N x t I wy hc h ht
    have hg := h.recv (by omega)
    have := pro_out c PI PO R hfl hst hpo I (N + 16) (x.recvX t).flush (put60 wy (x.recvX t).flushF) (e1.trans hc) hg (by omega) (fun s hs => (hI s (by simp [hs])).same e1 rfl rfl (Nat.le_refl _) (Nat.le_refl _)) (fun _ => hfl _ hR) (fun s hs => by
      rcases mem_put60 hs with hs | hs
      · exact ((hw s hs).takes ht e2 e3).same rfl rfl rfl (Nat.le_refl _) (flush_sum hO)
      · exact flush_fn (P := PO) hO (by omega) e2 (hpo _ (e1.trans hc) hR) s hs)
    rw [show N + 16 * (I.length + 1) = N + 16 + 16 * I.length by omega]
    exact this
theorem half_out {y : Ls} (c : Nat) (PI PO : Nat → Nat → Nat → Prop) (R : Ls → Prop) (hfl : ∀ z, R z → R z.flush)
    (hst : ∀ (N : Nat) (z : Ls) (t : ByteArray) (I wy : List ByteArray), z.own = c → Gm N z y (t :: I) wy → Fn PI z y t → R (z.recvX t)) (hpo : ∀ z, z.own = c → R z → ∀ k, (z.sure = true → k ≠ 1) → PO k z.own z.peer)
    {I : List ByteArray} {N : Nat} {x : Ls} (hc : x.own = c) (h : Gm N x y I []) (hN : N + 16 * I.length + 2000 < 4294967296) (hI : ∀ t ∈ I, Fn PI x y t) (hr : I = [] → R x) :
    Gm (N + 16 * I.length) (hlf x I).1 y [] (hlf x I).2 ∧ R (hlf x I).1 ∧ (∀ t ∈ (hlf x I).2, Fn PO y (hlf x I).1 t) ∧ (hlf x I).2 ≠ [] ∧ (hlf x I).2.length ≤ 60 ∧ (hlf x I).1.own = c := by
  obtain ⟨g, r, f, hc2⟩ := pro_out c PI PO R hfl hst hpo I N x [] hc h hN hI hr (fun t ht => by simp at ht)
  have hl : (pro x [] I).2.length ≤ 60 := pro_len _ _ _ (by simp)
  rw [show hlf x I = ((pro x [] I).1.flush, put60 (pro x [] I).2 (pro x [] I).1.tickF) from rfl]
  generalize pro x [] I = W at *
  obtain ⟨z, wz⟩ := W
  have hg := g.tick (by omega)
  obtain ⟨_, t1⟩ := tickL_len hg.ox
  refine ⟨hg, hfl _ r, fun s hs => ?_, fun e => ?_, put60_le hl, hc2⟩
  · rcases mem_put60 hs with hs | hs
    · exact (f s hs).same rfl rfl rfl (Nat.le_refl _) (flush_sum g.ox)
    · exact tick_fn (P := PO) g.ox (by omega) g.px (hpo _ hc2 r) s hs
  · change put60 wz (tickL z.flush) = [] at e
    change 1 ≤ (tickL z.flush).length at t1
    unfold put60 at e
    have := congrArg List.length e
    rw [List.length_append, List.length_take, List.length_nil] at this
    omega
theorem recv_sure {P : Nat → Nat → Nat → Prop} {N : Nat} {x y : Ls} {wx wy : List ByteArray} (h : Gm N x y wx wy) {t : ByteArray} (ht : Fn P x y t) (hP : ∀ k o p, P k o p → o = y.own) : (x.recvX t).own = x.own ∧ (x.recvX t).peer = y.own ∧ ((∀ k o p, P k o p → p = x.own) → (x.recvX t).sure = true) := by
  obtain ⟨k, o, p, q, a, b, rfl, hf, h0, h1, _⟩ := ht
  rw [recvX_tx hf]
  obtain ⟨e1, e2⟩ := takeX_own x k o p q a b
  have ho := hP _ _ _ h0
  have hpx := h.px
  refine ⟨e1, by rw [e2, if_neg (by omega)]; exact ho, fun hp => ?_⟩
  have hpo := hp _ _ _ h0
  rw [Ls.takeX, if_neg (by omega), if_neg (by omega)]
  unfold Ls.openX
  split
  · rfl
  · split <;> rfl

/- the first round: whatever is on its way -/
def first (x y : Ls) (wx wy : List ByteArray) : Ls × Ls × List ByteArray :=
  ((pro x wy wx).1.flush, (hlf y (put60 (pro x wy wx).2 (pro x wy wx).1.tickF)).1, (hlf y (put60 (pro x wy wx).2 (pro x wy wx).1.tickF)).2)
theorem first_g {N : Nat} {x y : Ls} {wx wy : List ByteArray} (h : Gm N x y wx wy) (hN : N + 10000 < 4294967296) (l1 : wx.length ≤ 60) (l2 : wy.length ≤ 60) :
    Gm (N + 1920) (first x y wx wy).1 (first x y wx wy).2.1 (first x y wx wy).2.2 [] ∧ (∀ t ∈ (first x y wx wy).2.2, Fn (fun _ o _ => o = (first x y wx wy).2.1.own) (first x y wx wy).1 (first x y wx wy).2.1 t) ∧ (first x y wx wy).2.2 ≠ [] ∧ (first x y wx wy).2.2.length ≤ 60 := by
  have a := pro_out (y := y) x.own Any Any (fun _ => True) (fun _ h => h) (fun _ _ _ _ _ _ _ _ => trivial) (fun _ _ _ _ _ => trivial) wx N x wy rfl h (by omega) (fun t ht => h.mx.frm t ht) (fun _ => trivial) (fun t ht => h.my.frm t ht)
  have hl : (pro x wy wx).2.length ≤ 60 := pro_len _ _ _ l2
  unfold first
  generalize pro x wy wx = W at *
  obtain ⟨z, wz⟩ := W
  have hg := a.1.tick (by omega)
  change Gm (N + 16 * wx.length) z.flush y [] (put60 wz z.tickF) at hg
  have hl2 : (put60 wz z.tickF).length ≤ 60 := put60_le hl
  show Gm (N + 1920) z.flush (hlf y (put60 wz z.tickF)).1 (hlf y (put60 wz z.tickF)).2 [] ∧ _
  generalize put60 wz z.tickF = O at *
  obtain ⟨b1, b2, b3, b4, b5, b6⟩ := half_out (x := y) (y := z.flush) y.own Any (fun _ o _ => o = y.own) (fun _ => True) (fun _ h => h) (fun _ _ _ _ _ _ _ _ => trivial) (fun v e _ k _ => e) rfl hg.symm (by omega) (fun t ht => hg.my.frm t ht) (fun _ => trivial)
  exact ⟨b1.symm.mono (by omega), fun t ht => (b3 t ht).weak fun k o p e => e.trans b6.symm, b4, b5⟩
/- the second and the third one -/
theorem knows {N : Nat} {x y : Ls} {I : List ByteArray} (h : Gm N x y I []) (hN : N + 10000 < 4294967296) (hl : I.length ≤ 60) (hne : I ≠ []) (hI : ∀ t ∈ I, Fn (fun _ o _ => o = y.own) x y t) (_ : y.owed = false) :
    Bg (N + 3840) (rnd (rnd x y I).1 (rnd x y I).2.1 (rnd x y I).2.2).1 (rnd (rnd x y I).1 (rnd x y I).2.1 (rnd x y I).2.2).2.1 (rnd (rnd x y I).1 (rnd x y I).2.1 (rnd x y I).2.2).2.2 := by
  obtain ⟨a1, a2, a3, a4, a5, a6⟩ := half_out (x := x) (y := y) x.own (fun _ o _ => o = y.own) (fun _ o p => o = x.own ∧ p = y.own) (fun z => z.peer = y.own) (fun _ h => h) (fun N z t J wy _ g f => (recv_sure g f fun _ _ _ e => e).2.1) (fun z e r k _ => ⟨e, r⟩) rfl h (by omega) hI (fun e => absurd e hne)
  obtain ⟨b1, b2, b3, b4, b5, b6⟩ := half_out (x := y) (y := (hlf x I).1) y.own (fun _ o p => o = x.own ∧ p = y.own) (fun k o p => o = y.own ∧ p = x.own ∧ k ≠ 1) (fun z => z.peer = x.own ∧ z.sure = true) (fun _ h => h) (fun N z t J wy e g f => by
    obtain ⟨_, r1, r2⟩ := recv_sure g f fun _ _ _ q => q.1.trans a6.symm
    exact ⟨r1.trans a6, r2 fun _ _ _ q => q.2.trans e.symm⟩) (fun z e r k hk => ⟨e, r.1, hk r.2⟩) rfl a1.symm (by omega) a3 (fun e => absurd e a4)
  have ha0 : (hlf x I).1.owed = false := rfl
  have hb0 : (hlf y (hlf x I).2).1.owed = false := rfl
  show Bg (N + 3840) (rnd (hlf x I).1 (hlf y (hlf x I).2).1 (hlf y (hlf x I).2).2).1 (rnd (hlf x I).1 (hlf y (hlf x I).2).1 (hlf y (hlf x I).2).2).2.1 (rnd (hlf x I).1 (hlf y (hlf x I).2).1 (hlf y (hlf x I).2).2).2.2
  generalize (hlf x I).1 = x1 at *
  generalize (hlf x I).2 = O1 at *
  generalize (hlf y O1).1 = y1 at *
  generalize (hlf y O1).2 = I1 at *
  obtain ⟨c1, c2, c3, c4, c5, c6⟩ := half_out (x := x1) (y := y1) x.own (fun k o p => o = y.own ∧ p = x.own ∧ k ≠ 1) (fun k o p => o = x.own ∧ p = y.own ∧ k ≠ 1) (fun z => z.peer = y.own ∧ z.sure = true) (fun _ h => h) (fun N z t J wy e g f => by
    obtain ⟨_, r1, r2⟩ := recv_sure g f fun _ _ _ q => q.1.trans b6.symm
    exact ⟨r1.trans b6, r2 fun _ _ _ q => q.2.1.trans e.symm⟩) (fun z e r k hk => ⟨e, r.1, hk r.2⟩) a6 b1.symm (by omega) b3 (fun e => absurd e b4)
  have hc0 : (hlf x1 I1).1.owed = false := rfl
  have G : Gd (N + 3840 - 960) (hlf x1 I1).1 y1 [] (hlf x1 I1).2 := by
    refine ⟨c1.ox.mono (by omega), c1.oy.mono (by omega), c1.mx, c1.my, c2.2, b2.2, c2.1.trans b6.symm, b2.1.trans c6.symm, fun t ht => by simp at ht, fun t ht => (c3 t ht).weak fun k o p q => ⟨q.1.trans c6.symm, q.2.1.trans b6.symm, q.2.2⟩⟩
  have d := hlf_g G.symm (by omega) hb0
  exact ⟨(d.1.symm).mono (N' := N + 3840) (by omega), hc0, d.2.owed, hlf_len _ _ (pro_len _ _ _ (by simp))⟩
/- many rounds -/
def rn : Nat → Ls × Ls × List ByteArray → Ls × Ls × List ByteArray
  | 0, s => s
  | n + 1, s => rn n (rnd s.1 s.2.1 s.2.2)
theorem rn_add : ∀ (n m : Nat) (s : Ls × Ls × List ByteArray), rn (n + m) s = rn m (rn n s)
  | 0, m, s => by rw [Nat.zero_add]; rfl
  | n + 1, m, s => by rw [show n + 1 + m = (n + m) + 1 by omega]; exact rn_add n m _
theorem blocks {N : Nat} {x y : Ls} {I : List ByteArray} (h : Bg N x y I) : ∀ (j : Nat), N + 5760 * j + 30000 < 4294967296 → ∃ x' y' I' b, rn (3 * j) (x, y, I) = (x', y', I') ∧ Bg (N + 5760 * j) x' y' I' ∧ b ≤ j ∧ un x' y' + 29 * b ≤ un x y ∧ (tot x' ≤ tot x - 16 * (j - b) ∨ tot x' = 0) ∧ (tot y' ≤ tot y - 16 * (j - b) ∨ tot y' = 0)
  | 0, _ => ⟨x, y, I, 0, rfl, h, Nat.le_refl _, Nat.le_refl _, .inl (by omega), .inl (by omega)⟩
  | j + 1, hN => by
    obtain ⟨x1, y1, I1, b, e, g, hb, h1, h2, h3⟩ := blocks h j (by omega)
    obtain ⟨x2, y2, I2, e2, g2, k1, k2, k3, k4⟩ := three g (by omega)
    have er : rn (3 * (j + 1)) (x, y, I) = (x2, y2, I2) := by
      rw [show 3 * (j + 1) = 3 * j + 3 by omega, rn_add, e]
      exact e2
    rcases k4 with k4 | ⟨k4, k5⟩
    · exact ⟨x2, y2, I2, b + 1, er, ⟨g2.g.mono (by omega), g2.ox, g2.oy, g2.len⟩, by omega, by omega, by omega, by omega⟩
    · exact ⟨x2, y2, I2, b, er, ⟨g2.g.mono (by omega), g2.ox, g2.oy, g2.len⟩, by omega, by omega, by omega, by omega⟩
/- forty rounds are enough -/
theorem forty {N : Nat} {x y : Ls} {wx wy : List ByteArray} (h : Gm N x y wx wy) (hN : N + 200000 < 4294967296) (l1 : wx.length ≤ 60) (l2 : wy.length ≤ 60) :
    ∃ x' y' I', rn 39 (first x y wx wy) = (x', y', I') ∧ Bg (N + 100000) x' y' I' ∧ tot x' = 0 ∧ tot y' = 0 := by
  obtain ⟨f1, f2, f3, f4⟩ := first_g h (by omega) l1 l2
  have f5 : (first x y wx wy).2.1.owed = false := rfl
  generalize first x y wx wy = F at *
  obtain ⟨x0, y0, I0⟩ := F
  have k := knows f1 (by omega) f4 f3 f2 f5
  have e2 : rn 2 (x0, y0, I0) = rnd (rnd x0 y0 I0).1 (rnd x0 y0 I0).2.1 (rnd x0 y0 I0).2.2 := rfl
  change Bg _ (rnd (rnd x0 y0 I0).1 (rnd x0 y0 I0).2.1 (rnd x0 y0 I0).2.2).1 (rnd (rnd x0 y0 I0).1 (rnd x0 y0 I0).2.1 (rnd x0 y0 I0).2.2).2.1 (rnd (rnd x0 y0 I0).1 (rnd x0 y0 I0).2.1 (rnd x0 y0 I0).2.2).2.2 at k
  generalize rnd (rnd x0 y0 I0).1 (rnd x0 y0 I0).2.1 (rnd x0 y0 I0).2.2 = F2 at *
  obtain ⟨x2, y2, I2⟩ := F2
  change Bg (N + 1920 + 3840) x2 y2 I2 at k
  obtain ⟨x3, y3, I3, b, e3, g3, hb, h1, h2, h3⟩ := blocks k 12 (by omega)
  have q1 := k.g.ox.Q64
  have q2 := k.g.oy.Q64
  have q3 := k.g.ox.A16
  have q4 := k.g.oy.A16
  unfold un at h1
  unfold tot at h2 h3
  have r := rnd_g g3 (by omega)
  have e4 : rn 39 (x0, y0, I0) = rnd x3 y3 I3 := by
    rw [show 39 = 2 + (3 * 12 + 1) by rfl, rn_add, e2, rn_add, e3]
    rfl
  refine ⟨(rnd x3 y3 I3).1, (rnd x3 y3 I3).2.1, (rnd x3 y3 I3).2.2, e4, ⟨r.b.g.mono (by omega), r.b.ox, r.b.oy, r.b.len⟩, ?_, ?_⟩
  · have s1 := r.h1.sum
    have s2 := r.h1.k
    unfold tot
    omega
  · have s1 := r.h2.sum
    have s2 := r.h2.k
    unfold tot
    omega
end Go.Proofs.Ytcadlcpccemkbaa
