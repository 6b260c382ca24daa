/- An end of a link in memory, and what a call leaves of it. -/
import Derived.Test.YtcadlcpccemkbaaJk
import Derived.Test.YtcadlcpccemkbaaJg
namespace Go.Proofs.Ytcadlcpccemkbaa
open Go.RowKit
set_option maxRecDepth 100000

/- an end: both starts, whether it is sure, whether an answer is owed, the Out (what has come, what was sent), the In (what was told, what is held), the line -/
structure Ls where
  (own peer : Nat) (sure owed : Bool) (k : Nat) (A : List ByteArray) (a : Nat) (l : List (Nat × ByteArray)) (Q : List ByteArray)

structure Lkm (B s : Nat) (v m u : Value) (n : Nat) (x : Ls) (w : World) : Prop where
  row : w.heap[s]? = some (.cells #[.int .u32 (x.own : Int), .int .u32 (x.peer : Int), .bool x.sure, .bool x.owed, .int .u32 (x.k : Int), v, .int .u32 (x.a : Int), m, u] 54 (0, 0))
  lo : B ≤ s
  out : Lst B w v x.A
  inn : Mp w m n (lk x.l)
  ln : Lst B w u x.Q
  nv : v.ownBlock ≠ some s
  nm : mblk m ≠ some s
  nu : u.ownBlock ≠ some s
  vu : ∀ g, v.ownBlock = some g → u.ownBlock ≠ some g
  mv : ∀ g, mblk m = some g → v.ownBlock ≠ some g
  mu : ∀ g, mblk m = some g → u.ownBlock ≠ some g
  ml : ∀ g, mblk m = some g → B ≤ g
/- its blocks -/
def Lf (s : Nat) (v m u : Value) (g : Nat) : Prop := g = s ∨ v.ownBlock = some g ∨ mblk m = some g ∨ u.ownBlock = some g

theorem Lkm.flt {B s n : Nat} {v m u : Value} {x : Ls} {w : World} (h : Lkm B s v m u n x w) {g : Nat} (hg : Lf s v m u g) : B ≤ g ∧ g < w.heap.size := by
  rcases hg with rfl | hg | hg | hg
  · exact ⟨h.lo, lt_heap h.row⟩
  · exact h.out.lt hg
  · exact ⟨h.ml g hg, h.inn.lt hg⟩
  · exact h.ln.lt hg
theorem Lkm.kp {F : Nat → Prop} {B s n : Nat} {v m u : Value} {x : Ls} {w w' : World} (h : Lkm B s v m u n x w) (hk : Kp F w w') (hF : ∀ g, Lf s v m u g → ¬ F g) : Lkm B s v m u n x w' :=
  ⟨(hk.block s (lt_heap h.row) (hF s (.inl rfl))).trans h.row, h.lo, h.out.kp hk fun g hg => hF g (.inr (.inl hg)), h.inn.kp hk fun g hg => hF g (.inr (.inr (.inl hg))), h.ln.kp hk fun g hg => hF g (.inr (.inr (.inr hg))), h.nv, h.nm, h.nu, h.vu, h.mv, h.mu, h.ml⟩
theorem Lkm.below {C B s n : Nat} {v m u : Value} {x : Ls} {w w' : World} (h : Lkm B s v m u n x w) (hb : Below C w w') (hC : w.heap.size ≤ C) : Lkm B s v m u n x w' :=
  h.kp (F := fun _ => False) (Kp.ofBelow (hb.mono hC)) fun _ _ h => h
theorem Lkm.mono {B s n n' : Nat} {v m u : Value} {x : Ls} {w : World} (h : Lkm B s v m u n x w) (hn : n ≤ n') : Lkm B s v m u n' x w :=
  ⟨h.row, h.lo, h.out, h.inn.mono hn, h.ln, h.nv, h.nm, h.nu, h.vu, h.mv, h.mu, h.ml⟩

/- its Out, its In -/
def oX (x : Ls) (m u : Value) : OX := ⟨.int .u32 (x.own : Int), .int .u32 (x.peer : Int), .bool x.sure, .bool x.owed, .int .u32 (x.a : Int), m, u⟩
def iX (x : Ls) (v u : Value) : IX := ⟨.int .u32 (x.own : Int), .int .u32 (x.peer : Int), .bool x.sure, .bool x.owed, .int .u32 (x.k : Int), v, u⟩
theorem Lkm.otm {B s n : Nat} {v m u : Value} {x : Ls} {w : World} (h : Lkm B s v m u n x w) : Otm (oX x m u) B s v x.k x.A w := ⟨h.row, h.out, h.nv⟩
theorem Lkm.inm {B s n : Nat} {v m u : Value} {x : Ls} {w : World} (h : Lkm B s v m u n x w) : Inm (iX x v u) s m x.a n (lk x.l) w := ⟨h.row, h.inn, h.nm⟩

/- what a call leaves -/
def Lkp (B s : Nat) (v m u : Value) (w : World) (n' : Nat) (x' : Ls) (w' : World) : Prop :=
  ∃ v' m' u', Lkm B s v' m' u' n' x' w' ∧ Kp (Lf s v m u) w w' ∧ ∀ g, Lf s v' m' u' g → Lf s v m u g ∨ w.heap.size ≤ g
theorem Lkp.refl {B s n : Nat} {v m u : Value} {x : Ls} {w : World} (h : Lkm B s v m u n x w) : Lkp B s v m u w n x w := ⟨v, m, u, h, Kp.refl _ _, fun _ hg => .inl hg⟩
theorem Lkp.ofBelow {B s n : Nat} {v m u : Value} {x : Ls} {w w' : World} (h : Lkm B s v m u n x w) (hb : Below w.heap.size w w') : Lkp B s v m u w n x w' := ⟨v, m, u, h.below hb (Nat.le_refl _), Kp.ofBelow hb, fun _ hg => .inl hg⟩
/- behind a call on its Out -/
theorem Lkm.outed {B s n k' : Nat} {v m u v' : Value} {x : Ls} {A' : List ByteArray} {w w' : World} (h : Lkm B s v m u n x w) (ho : Otm (oX x m u) B s v' k' A' w') (hk : Kp (Ofm s v) w w') (hf : ∀ g, v'.ownBlock = some g → v.ownBlock = some g ∨ w.heap.size ≤ g) :
    Lkm B s v' m u n { x with k := k', A := A' } w' ∧ Kp (Lf s v m u) w w' ∧ ∀ g, Lf s v' m u g → Lf s v m u g ∨ w.heap.size ≤ g := by
  have hm : ∀ g, mblk m = some g → ¬ Ofm s v g := fun g hg e => by
    rcases e with rfl | e
    · exact h.nm hg
    · exact h.mv g hg e
  have hu : ∀ g, u.ownBlock = some g → ¬ Ofm s v g := fun g hg e => by
    rcases e with rfl | e
    · exact h.nu hg
    · exact h.vu g e hg
  refine ⟨⟨ho.row, h.lo, ho.ls, h.inn.kp hk hm, h.ln.kp hk hu, ho.ne, h.nm, h.nu, fun g hg e => ?_, fun g hg e => ?_, h.mu, h.ml⟩, hk.mono fun g hg => ?_, fun g hg => ?_⟩
  · rcases hf g hg with h1 | h1
    · exact h.vu g h1 e
    · have := (h.ln.lt e).2
      omega
  · rcases hf g e with h1 | h1
    · exact h.mv g hg h1
    · have := h.inn.lt hg
      omega
  · rcases hg with h1 | h1
    · exact .inl h1
    · exact .inr (.inl h1)
  · rcases hg with h1 | h1 | h1
    · exact .inl (.inl h1)
    · rcases hf g h1 with h2 | h2
      · exact .inl (.inr (.inl h2))
      · exact .inr h2
    · exact .inl (.inr (.inr h1))
/- behind a call on its In -/
theorem Lkm.inned {B s n n' a' : Nat} {v m u m' : Value} {x : Ls} {l' : List (Nat × ByteArray)} {w w' : World} (h : Lkm B s v m u n x w) (hBw : B ≤ w.heap.size) (hi : Inm (iX x v u) s m' a' n' (lk l') w') (hk : Kp (Inf s m) w w') (hf : ∀ g, mblk m' = some g → mblk m = some g ∨ w.heap.size ≤ g) :
    Lkm B s v m' u n' { x with a := a', l := l' } w' ∧ Kp (Lf s v m u) w w' ∧ ∀ g, Lf s v m' u g → Lf s v m u g ∨ w.heap.size ≤ g := by
  have hv : ∀ g, v.ownBlock = some g → ¬ Inf s m g := fun g hg e => by
    rcases e with rfl | e
    · exact h.nv hg
    · exact h.mv g e hg
  have hu : ∀ g, u.ownBlock = some g → ¬ Inf s m g := fun g hg e => by
    rcases e with rfl | e
    · exact h.nu hg
    · exact h.mu g e hg
  refine ⟨⟨hi.row, h.lo, h.out.kp hk hv, hi.mp, h.ln.kp hk hu, h.nv, hi.ne, h.nu, h.vu, fun g hg e => ?_, fun g hg e => ?_, fun g hg => ?_⟩, hk.mono fun g hg => ?_, fun g hg => ?_⟩
  · rcases hf g hg with h1 | h1
    · exact h.mv g h1 e
    · have := (h.out.lt e).2
      omega
  · rcases hf g hg with h1 | h1
    · exact h.mu g h1 e
    · have := (h.ln.lt e).2
      omega
  · rcases hf g hg with h1 | h1
    · exact h.ml g h1
    · omega
  · rcases hg with h1 | h1
    · exact .inl h1
    · exact .inr (.inr (.inl h1))
  · rcases hg with h1 | h1 | h1 | h1
    · exact .inl (.inl h1)
    · exact .inl (.inr (.inl h1))
    · rcases hf g h1 with h2 | h2
      · exact .inl (.inr (.inr (.inl h2)))
      · exact .inr h2
    · exact .inl (.inr (.inr (.inr h1)))
/- a cell of its own is another one now -/
theorem Lkm.mark {B s n j : Nat} {v m u z : Value} {x x' : Ls} {w : World} (h : Lkm B s v m u n x w) (hA : x'.A = x.A) (hl : x'.l = x.l) (hQ : x'.Q = x.Q)
    (hr : (w.setCell ⟨s, j, none⟩ z).heap[s]? = some (.cells #[.int .u32 (x'.own : Int), .int .u32 (x'.peer : Int), .bool x'.sure, .bool x'.owed, .int .u32 (x'.k : Int), v, .int .u32 (x'.a : Int), m, u] 54 (0, 0))) :
    Lkm B s v m u n x' (w.setCell ⟨s, j, none⟩ z) ∧ Kp (Lf s v m u) w (w.setCell ⟨s, j, none⟩ z) := by
  have hk : Kp (fun g => g = s) w (w.setCell ⟨s, j, none⟩ z) := Kp.setCell _ _ _ _ rfl
  refine ⟨⟨hr, h.lo, hA ▸ h.out.kp hk (fun g hg e => h.nv (e ▸ hg)), hl ▸ h.inn.kp hk (fun g hg e => h.nm (e ▸ hg)), hQ ▸ h.ln.kp hk (fun g hg e => h.nu (e ▸ hg)), h.nv, h.nm, h.nu, h.vu, h.mv, h.mu, h.ml⟩, hk.mono fun g hg => .inl hg⟩
/- its line is another one now -/
theorem Lkm.lined {B s n : Nat} {v m u u' : Value} {x : Ls} {Q' : List ByteArray} {w w' : World} (h : Lkm B s v m u n x w) (hu : Lst B w' u' Q') (hg : w.grownBy w' u.ownBlock) (hf : ∀ g, u'.ownBlock = some g → u.ownBlock = some g ∨ w.heap.size ≤ g) :
    Lkm B s v m u' n { x with Q := Q' } (w'.setCell ⟨s, 8, none⟩ u') ∧ Kp (Lf s v m u) w (w'.setCell ⟨s, 8, none⟩ u') ∧ ∀ g, Lf s v m u' g → Lf s v m u g ∨ w.heap.size ≤ g := by
  have hs := lt_heap h.row
  have hk1 : Kp (fun g => u.ownBlock = some g) w w' := Kp.ofGrown hg
  have hk2 : Kp (fun g => g = s) w' (w'.setCell ⟨s, 8, none⟩ u') := Kp.setCell _ _ _ _ rfl
  have hk : Kp (fun g => g = s ∨ u.ownBlock = some g) w (w'.setCell ⟨s, 8, none⟩ u') := (hk1.mono fun g e => .inr e).trans (hk2.mono fun g e => .inl e)
  have hus : u'.ownBlock ≠ some s := fun e => by
    rcases hf s e with h1 | h1
    · exact h.nu h1
    · omega
  have hr : w'.heap[s]? = w.heap[s]? := hk1.block s hs h.nu
  refine ⟨⟨?_, h.lo, h.out.kp hk fun g hg e => ?_, h.inn.kp hk fun g hg e => ?_, hu.kp hk2 fun g hg e => hus (e ▸ hg), h.nv, h.nm, hus, fun g hg e => ?_, h.mv, fun g hg e => ?_, h.ml⟩, hk.mono fun g e => ?_, fun g e => ?_⟩
  · rw [heap_setCell_same _ s 8 _ _ _ (hr.trans h.row)]
    rfl
  · rcases e with rfl | e
    · exact h.nv hg
    · exact h.vu g hg e
  · rcases e with rfl | e
    · exact h.nm hg
    · exact h.mu g hg e
  · rcases hf g e with h1 | h1
    · exact h.vu g hg h1
    · have := (h.out.lt hg).2
      omega
  · rcases hf g e with h1 | h1
    · exact h.mu g hg h1
    · have := h.inn.lt hg
      omega
  · rcases e with e | e
    · exact .inl e
    · exact .inr (.inr (.inr e))
  · rcases e with e | e | e | e
    · exact .inl (.inl e)
    · exact .inl (.inr (.inl e))
    · exact .inl (.inr (.inr (.inl e)))
    · rcases hf g e with h1 | h1
      · exact .inl (.inr (.inr (.inr h1)))
      · exact .inr h1

end Go.Proofs.Ytcadlcpccemkbaa
