/- Pure: all frames on a way arrive, one behind the other. -/
import Derived.Test.YtcadlcpccemkbaaMLbLc
namespace Go.Proofs.Ytcadlcpccemkbaa
set_option maxRecDepth 100000

structure Gd (N : Nat) (x y : Ls) (wx wy : List ByteArray) : Prop where
  ox : x.Ok N
  oy : y.Ok N
  mx : Mu x y wx
  my : Mu y x wy
  sx : x.sure = true
  sy : y.sure = true
  px : x.peer = y.own
  py : y.peer = x.own
  gx : ∀ t ∈ wx, Fn (PG y x) x y t
  gy : ∀ t ∈ wy, Fn (PG x y) y x t
theorem Gd.symm {N : Nat} {x y : Ls} {wx wy : List ByteArray} (h : Gd N x y wx wy) : Gd N y x wy wx :=
  ⟨h.oy, h.ox, h.my, h.mx, h.sy, h.sx, h.py, h.px, h.gy, h.gx⟩
theorem Gd.mono {N N' : Nat} {x y : Ls} {wx wy : List ByteArray} (h : Gd N x y wx wy) (hn : N ≤ N') : Gd N' x y wx wy :=
  ⟨h.ox.mono hn, h.oy.mono hn, h.mx, h.my, h.sx, h.sy, h.px, h.py, h.gx, h.gy⟩
theorem Gd.tick {N : Nat} {x y : Ls} {wx wy : List ByteArray} (h : Gd N x y wx wy) (hN : N + 1000 < 4294967296) : Gd N x.flush y wx (put60 wy x.tickF) := by
  have hs := flush_sum h.ox
  refine ⟨h.ox.flush, h.oy, h.mx.tells, h.my.told h.ox fun t ht => (tick_fn (P := Any) h.ox hN (Nat.le_of_eq h.px) (fun _ _ => trivial) t ht), h.sx, h.sy, h.px, h.py, fun t ht => ?_, fun t ht => ?_⟩
  · exact (h.gx t ht).same rfl rfl rfl (Nat.le_refl _) (Nat.le_refl _)
  · rcases mem_put60 ht with ht | ht
    · exact (h.gy t ht).same rfl rfl rfl (Nat.le_refl _) hs
    · exact tick_fn (P := PG x y) h.ox hN (Nat.le_of_eq h.px) (fun k hk => ⟨rfl, h.px, hk h.sx⟩) t ht
theorem Gd.recv {N : Nat} {x y : Ls} {t : ByteArray} {I wy : List ByteArray} (h : Gd N x y (t :: I) wy) (hN : N + 2000 < 4294967296) : Rg x t (x.recvX t) ∧ Gd (N + 16) (x.recvX t).flush y I (put60 wy (x.recvX t).flushF) := by
  have ht := h.gx t (by simp)
  have hr := recv_g h.ox h.px h.py (h.my.num h.py h.px).2.1 ht
  have hO := h.ox.recvX t
  have hs := flush_sum hO
  have hs2 : x.k + x.A.length ≤ (x.recvX t).flush.k + (x.recvX t).flush.A.length := by rw [← hr.sum]; exact hs
  have m1 := ((h.mx.less (wx' := I) fun s hs => by simp [hs]).arrives (fun e => by rw [h.sy] at e; cases e) (Nat.le_of_eq h.py) ht.any).tells
  have m2 := (h.my.taken (Nat.le_of_eq h.py) (fun _ e => absurd h.px e) ht.any).told hO fun s hs => flush_fn (P := Any) hO (by omega) (by rw [hr.peer]; exact Nat.le_of_eq h.px) (fun _ _ => trivial) s hs
  refine ⟨hr, hO.flush, h.oy.mono (by omega), m1, m2, hr.sure, h.sy, hr.peer.trans h.px, h.py.trans hr.own.symm, fun s hs => ?_, fun s hs => ?_⟩
  · refine ((h.gx s (by simp [hs])).weak fun k o p hp => ⟨hp.1, hp.2.1.trans hr.own.symm, hp.2.2⟩).same hr.own rfl rfl (Nat.le_refl _) (Nat.le_refl _)
  · rcases mem_put60 hs with hs | hs
    · refine ((h.gy s hs).weak fun k o p hp => ⟨hp.1.trans hr.own.symm, hp.2.1, hp.2.2⟩).same rfl hr.own hr.peer hr.a hs2
    · exact flush_fn (P := PG (x.recvX t).flush y) hO (by omega) (by rw [hr.peer]; exact Nat.le_of_eq h.px) (fun k hk => ⟨rfl, hr.peer.trans h.px, hk hr.sure⟩) s hs

def pro (x : Ls) (wy : List ByteArray) : List ByteArray → Ls × List ByteArray
  | [] => (x, wy)
  | t :: I => pro (x.recvX t).flush (put60 wy (x.recvX t).flushF) I
theorem pro_append (x : Ls) (wy J : List ByteArray) : ∀ (I : List ByteArray), pro x wy (I ++ J) = pro (pro x wy I).1 (pro x wy I).2 J := by
  intro I
  induction I generalizing x wy with
  | nil => rfl
  | cons t I ih => exact ih _ _
theorem put60_put60 (A F G : List ByteArray) : put60 (put60 A F) G = put60 A (F ++ G) := by
  unfold put60
  rw [List.append_assoc, List.take_append, List.length_append, List.length_take]
  congr 2
  rw [show 60 - (A.length + min (60 - A.length) F.length) = 60 - A.length - F.length by omega]
theorem put60_nil (A : List ByteArray) : put60 A [] = A := by simp [put60]

structure Rp (x : Ls) (wy I : List ByteArray) (z : Ls) (wz outs : List ByteArray) : Prop where
  own : z.own = x.own
  peer : z.peer = x.peer
  sure : z.sure = true
  owed : z.owed = false
  sum : z.k + z.A.length + z.Q.length = x.k + x.A.length + x.Q.length
  k : x.k ≤ z.k
  a : x.a ≤ z.a
  Q : z.Q.length ≤ x.Q.length
  ack : ∀ t ∈ I, ackOf t ≤ z.k + 1
  out : wz = put60 wy outs
  len : outs.length + z.Q.length ≤ x.Q.length + I.countP isD
  dat : outs.countP isD + z.Q.length ≤ x.Q.length
theorem pro_g {y : Ls} (J : List ByteArray) : ∀ (I : List ByteArray) (N : Nat) (x : Ls) (wy : List ByteArray), Gd N x y (I ++ J) wy → N + 16 * I.length + 2000 < 4294967296 → x.owed = false →
    Gd (N + 16 * I.length) (pro x wy I).1 y J (pro x wy I).2 ∧ ∃ outs, Rp x wy I (pro x wy I).1 (pro x wy I).2 outs
  | [], N, x, wy, h, _, ho => by
    rw [show pro x wy [] = (x, wy) from rfl]
    exact ⟨h, [], rfl, rfl, h.sx, ho, rfl, Nat.le_refl _, Nat.le_refl _, Nat.le_refl _, fun t ht => by simp at ht, (put60_nil _).symm, by simp, by simp⟩
  | t :: I, N, x, wy, h, hN, ho => by
    rw [List.length_cons] at hN ⊢
    obtain ⟨hr, hg⟩ := h.recv (by omega)
    have hO := h.ox.recvX t
    obtain ⟨g1, outs, r⟩ := pro_g J I (N + 16) (x.recvX t).flush (put60 wy (x.recvX t).flushF) hg (by omega) rfl
    obtain ⟨f1, f2⟩ := flush_len (x.recvX t)
    obtain ⟨c1, c2⟩ := flushF_len2 hO (by omega) hr.sure (isD t) (by rw [hr.owed, ho]; rfl)
    rw [hr.Q] at f1 f2 c1 c2
    have hsum := hr.sum
    rw [show pro x wy (t :: I) = pro (x.recvX t).flush (put60 wy (x.recvX t).flushF) I from rfl]
    have hk0 : (x.recvX t).k ≤ (pro (x.recvX t).flush (put60 wy (x.recvX t).flushF) I).1.k := r.k
    have ha0 : (x.recvX t).a ≤ (pro (x.recvX t).flush (put60 wy (x.recvX t).flushF) I).1.a := r.a
    generalize pro (x.recvX t).flush (put60 wy (x.recvX t).flushF) I = R at *
    have hra := hr.a
    have hrk := hr.k
    refine ⟨by rw [show N + 16 * (I.length + 1) = N + 16 + 16 * I.length by omega]; exact g1, (x.recvX t).flushF ++ outs, r.own.trans hr.own, r.peer.trans hr.peer, r.sure, r.owed, ?_, Nat.le_trans hr.k hk0, Nat.le_trans hr.a ha0, Nat.le_trans r.Q f2, fun s hs => ?_, ?_, ?_, ?_⟩
    · have := r.sum; omega
    · rcases List.mem_cons.1 hs with rfl | hs
      · have h1 := hr.ack
        omega
      · exact r.ack s hs
    · rw [← put60_put60]; exact r.out
    · have := r.len
      rw [List.length_append, List.countP_cons]
      omega
    · have := r.dat
      rw [List.countP_append]
      omega
/- Data that follow each other are told -/
theorem pro_told {y : Ls} : ∀ (I : List ByteArray) (N K : Nat) (x : Ls) (wy : List ByteArray), Gd N x y I wy → N + 16 * I.length + 2000 < 4294967296 → (∀ j t, I[j]? = some t → isD t = true ∧ numOf t = K + 1 + j) → K ≤ x.a → K + I.length ≤ (pro x wy I).1.a
  | [], _, K, x, wy, _, _, _, hk => hk
  | t :: I, N, K, x, wy, h, hN, hI, hk => by
    rw [List.length_cons] at hN ⊢
    obtain ⟨hr, hg⟩ := h.recv (by omega)
    obtain ⟨d1, d2⟩ := hI 0 t rfl
    have h1 := hr.num d1 (by omega)
    have := pro_told I (N + 16) (K + 1) (x.recvX t).flush (put60 wy (x.recvX t).flushF) hg (by omega) (fun j s hs => by
      obtain ⟨e1, e2⟩ := hI (j + 1) s (by simpa using hs)
      exact ⟨e1, by omega⟩) (by change K + 1 ≤ (x.recvX t).a; omega)
    change K + (I.length + 1) ≤ (pro (x.recvX t).flush (put60 wy (x.recvX t).flushF) I).1.a
    omega

/- a half round -/
def hlf (x : Ls) (I : List ByteArray) : Ls × List ByteArray := ((pro x [] I).1.flush, put60 (pro x [] I).2 (pro x [] I).1.tickF)
structure Rh (x : Ls) (I : List ByteArray) (z : Ls) (O : List ByteArray) : Prop where
  own : z.own = x.own
  peer : z.peer = x.peer
  owed : z.owed = false
  sum : z.k + z.A.length + z.Q.length = x.k + x.A.length + x.Q.length
  k : x.k ≤ z.k
  a : x.a ≤ z.a
  Q : z.Q.length ≤ x.Q.length
  full : z.A.length = 16 ∨ z.Q = []
  ack : ∀ t ∈ I, ackOf t ≤ z.k + 1
  dat : O.countP isD + z.Q.length ≤ x.Q.length + 16
  all : I.countP isD + x.Q.length + 16 ≤ 60 + z.Q.length → ∃ pre, O = pre ++ tickL z
  told : ∀ pre L K, I = pre ++ L → (∀ j t, L[j]? = some t → isD t = true ∧ numOf t = K + 1 + j) → K ≤ x.a → K + L.length ≤ z.a
theorem hlf_g {N : Nat} {x y : Ls} {I : List ByteArray} (h : Gd N x y I []) (hN : N + 16 * I.length + 2000 < 4294967296) (ho : x.owed = false) :
    Gd (N + 16 * I.length) (hlf x I).1 y [] (hlf x I).2 ∧ Rh x I (hlf x I).1 (hlf x I).2 := by
  have TOLD : ∀ pre L K, I = pre ++ L → (∀ j t, L[j]? = some t → isD t = true ∧ numOf t = K + 1 + j) → K ≤ x.a → K + L.length ≤ (pro x [] I).1.a := by
    intro pre L K hI hL hk
    subst hI
    rw [List.length_append] at hN
    obtain ⟨g2, outs2, r2⟩ := pro_g L pre N x [] h (by omega) ho
    have h1 := pro_told L (N + 16 * pre.length) K (pro x [] pre).1 (pro x [] pre).2 g2 (by omega) hL (Nat.le_trans hk r2.a)
    rw [← pro_append] at h1
    exact h1
  obtain ⟨g, outs, r⟩ := pro_g [] I N x [] (by rw [List.append_nil]; exact h) hN ho
  rw [show hlf x I = ((pro x [] I).1.flush, put60 (pro x [] I).2 (pro x [] I).1.tickF) from rfl]
  generalize pro x [] I = R at *
  obtain ⟨z, wz⟩ := R
  have hg := g.tick (by omega)
  obtain ⟨f1, f2⟩ := flush_len z
  obtain ⟨t1, _⟩ := tickL_len hg.ox
  have hsum := r.sum
  have hdat := r.dat
  have hlen := r.len
  have hQ := r.Q
  have e : put60 wz z.tickF = put60 [] (outs ++ tickL z.flush) := by
    have := r.out
    change wz = _ at this
    rw [this, put60_put60]
    rfl
  have t2 := List.countP_le_length (p := isD) (l := tickL z.flush)
  change (tickL z.flush).length ≤ 16 at t1
  change z.k + z.A.length + z.Q.length = _ at hsum
  change outs.countP isD + z.Q.length ≤ _ at hdat
  change outs.length + z.Q.length ≤ _ at hlen
  change z.Q.length ≤ _ at hQ
  refine ⟨hg, r.own, r.peer, rfl, ?_, r.k, r.a, ?_, flush_full g.ox, r.ack, ?_, fun hc => ?_, TOLD⟩
  · show z.flush.k + z.flush.A.length + z.flush.Q.length = _
    omega
  · show z.flush.Q.length ≤ _
    omega
  · show (put60 wz z.tickF).countP isD + z.flush.Q.length ≤ _
    rw [e]
    have h2 : (put60 [] (outs ++ tickL z.flush)).countP isD ≤ (outs ++ tickL z.flush).countP isD := by
      unfold put60
      rw [List.nil_append]
      exact (List.take_sublist _ _).countP_le
    rw [List.countP_append] at h2
    omega
  · refine ⟨outs, ?_⟩
    change I.countP isD + x.Q.length + 16 ≤ 60 + z.flush.Q.length at hc
    show put60 wz z.tickF = outs ++ tickL z.flush
    rw [e]
    unfold put60
    rw [List.nil_append, List.take_of_length_le]
    rw [List.length_append]
    show _ ≤ 60 - 0
    omega
end Go.Proofs.Ytcadlcpccemkbaa
