/- Two ends, what is on its way, what was sent, what came, in memory. -/
import Derived.Test.YtcadlcpccemkbaaMJxJy
namespace Go.Proofs.Ytcadlcpccemkbaa
open Go.RowKit
set_option maxRecDepth 100000

/- two ends by their number; lists: on its way (2, 3), sent (4, 5), got (6, 7) -/
structure Es where
  L : Nat → Ls
  ls : Nat → List ByteArray
def ptr (s : Nat) : Value := .pointer (some ⟨s, 0, none⟩)

structure Em (B e : Nat) (p : Nat → Nat) (vl : Nat → Value) (Fp : Nat → Nat → Prop) (n : Nat) (S : Es) (w : World) : Prop where
  row : w.heap[e]? = some (.cells #[.pointer (some ⟨p 0, 0, none⟩), .pointer (some ⟨p 1, 0, none⟩), vl 2, vl 3, vl 4, vl 5, vl 6, vl 7, .int .u32 0, .int .u32 0, .int .u32 0, .int .u32 0, .bool false] 36 (0, 0))
  lk : ∀ i, i < 2 → ∃ v m u, Lkm B (p i) v m u n (S.L i) w ∧ ∀ g, Fp i g ↔ Lf (p i) v m u g
  ls : ∀ i, 2 ≤ i → i < 8 → Lst B w (vl i) (S.ls i) ∧ ∀ g, Fp i g ↔ (vl i).ownBlock = some g
  box : ∀ g, Fp 8 g ↔ g = e
  dis : ∀ i j, i < 9 → j < 9 → i ≠ j → ∀ g, Fp i g → ¬ Fp j g
  lo : B ≤ e

theorem Em.fb {B e n : Nat} {p : Nat → Nat} {vl : Nat → Value} {Fp : Nat → Nat → Prop} {S : Es} {w : World} (h : Em B e p vl Fp n S w) {i g : Nat} (hi : i < 9) (hg : Fp i g) : B ≤ g ∧ g < w.heap.size := by
  by_cases h2 : i < 2
  · obtain ⟨v, m, u, h1, h3⟩ := h.lk i h2
    exact h1.flt ((h3 g).1 hg)
  · by_cases h8 : i < 8
    · obtain ⟨h1, h3⟩ := h.ls i (by omega) h8
      exact h1.lt ((h3 g).1 hg)
    · obtain rfl : i = 8 := by omega
      rw [(h.box g).1 hg]
      exact ⟨h.lo, lt_heap h.row⟩
theorem Em.hB {B e n : Nat} {p : Nat → Nat} {vl : Nat → Value} {Fp : Nat → Nat → Prop} {S : Es} {w : World} (h : Em B e p vl Fp n S w) : B ≤ w.heap.size := by
  have := h.lo
  have := lt_heap h.row
  omega
/- kept, where its blocks are -/
theorem Em.kp {F : Nat → Prop} {B e n : Nat} {p : Nat → Nat} {vl : Nat → Value} {Fp : Nat → Nat → Prop} {S : Es} {w w' : World} (h : Em B e p vl Fp n S w) (hk : Kp F w w') (hF : ∀ i g, i < 9 → Fp i g → ¬ F g) : Em B e p vl Fp n S w' := by
  refine ⟨(hk.block e (lt_heap h.row) (hF 8 e (by omega) ((h.box e).2 rfl))).trans h.row, fun i hi => ?_, fun i h2 h8 => ?_, h.box, h.dis, h.lo⟩
  · obtain ⟨v, m, u, h1, h3⟩ := h.lk i hi
    exact ⟨v, m, u, h1.kp hk fun g hg => hF i g (by omega) ((h3 g).2 hg), h3⟩
  · obtain ⟨h1, h3⟩ := h.ls i h2 h8
    exact ⟨h1.kp hk fun g hg => hF i g (by omega) ((h3 g).2 hg), h3⟩
theorem Em.below {C B e n : Nat} {p : Nat → Nat} {vl : Nat → Value} {Fp : Nat → Nat → Prop} {S : Es} {w w' : World} (h : Em B e p vl Fp n S w) (hb : Below C w w') (hC : w.heap.size ≤ C) : Em B e p vl Fp n S w' :=
  h.kp (F := fun _ => False) (Kp.ofBelow (hb.mono hC)) fun _ _ _ _ h => h
theorem Em.mono {B e n n' : Nat} {p : Nat → Nat} {vl : Nat → Value} {Fp : Nat → Nat → Prop} {S : Es} {w : World} (h : Em B e p vl Fp n S w) (hn : n ≤ n') : Em B e p vl Fp n' S w :=
  ⟨h.row, fun i hi => (by obtain ⟨v, m, u, h1, h3⟩ := h.lk i hi; exact ⟨v, m, u, h1.mono hn, h3⟩), h.ls, h.box, h.dis, h.lo⟩
/- an end did something -/
theorem Em.link {B e n n' i : Nat} {p : Nat → Nat} {vl : Nat → Value} {Fp : Nat → Nat → Prop} {S : Es} {x' : Ls} {v m u v' m' u' : Value} {w w' : World} (h : Em B e p vl Fp n S w) (hi : i < 2) (h0 : ∀ g, Fp i g ↔ Lf (p i) v m u g) (hn : n ≤ n')
    (h1 : Lkm B (p i) v' m' u' n' x' w') (h2 : Kp (Lf (p i) v m u) w w') (h3 : ∀ g, Lf (p i) v' m' u' g → Lf (p i) v m u g ∨ w.heap.size ≤ g) :
    Em B e p vl (upd Fp i (Lf (p i) v' m' u')) n' ⟨upd S.L i x', S.ls⟩ w' := by
  have hk : ∀ j, j < 9 → j ≠ i → ∀ g, Fp j g → ¬ Lf (p i) v m u g := fun j hj hji g hg e => h.dis j i hj (by omega) hji g hg ((h0 g).2 e)
  refine ⟨(h2.block e (lt_heap h.row) (hk 8 (by omega) (by omega) e ((h.box e).2 rfl))).trans h.row, fun j hj => ?_, fun j j2 j8 => ?_, fun g => ?_, fun a b ha hb hab g hg e => ?_, h.lo⟩
  · by_cases hji : j = i
    · subst hji
      exact ⟨v', m', u', by rw [show (⟨upd S.L j x', S.ls⟩ : Es).L j = x' from upd_same _ _ _]; exact h1, fun g => by rw [upd_same]⟩
    · obtain ⟨vj, mj, uj, k1, k2⟩ := h.lk j hj
      refine ⟨vj, mj, uj, ?_, fun g => by rw [upd_other _ _ hji]; exact k2 g⟩
      rw [show (⟨upd S.L i x', S.ls⟩ : Es).L j = S.L j from upd_other _ _ hji]
      exact (k1.kp h2 fun g hg => hk j (by omega) hji g ((k2 g).2 hg)).mono hn
  · obtain ⟨k1, k2⟩ := h.ls j j2 j8
    exact ⟨k1.kp h2 fun g hg => hk j (by omega) (by omega) g ((k2 g).2 hg), fun g => by rw [upd_other _ _ (by omega)]; exact k2 g⟩
  · rw [upd_other _ _ (by omega)]
    exact h.box g
  · by_cases hai : a = i
    · subst hai
      rw [upd_same] at hg
      rw [upd_other _ _ (fun e => hab e.symm)] at e
      rcases h3 g hg with k | k
      · exact hk b hb (fun e => hab e.symm) g e k
      · have := (h.fb hb e).2
        omega
    · rw [upd_other _ _ hai] at hg
      by_cases hbi : b = i
      · subst hbi
        rw [upd_same] at e
        rcases h3 g e with k | k
        · exact hk a ha hab g hg k
        · have := (h.fb ha hg).2
          omega
      · rw [upd_other _ _ hbi] at e
        exact h.dis a b ha hb hab g hg e
/- a list is another one now -/
theorem Em.list {B e n i : Nat} {p : Nat → Nat} {vl : Nat → Value} {Fp : Nat → Nat → Prop} {S : Es} {A' : List ByteArray} {v' : Value} {w w' : World} (h : Em B e p vl Fp n S w) (hi : 2 ≤ i) (hi8 : i < 8) (hl : Lst B w' v' A') (hk : Kp (fun g => (vl i).ownBlock = some g) w w') (hf : ∀ g, v'.ownBlock = some g → (vl i).ownBlock = some g ∨ w.heap.size ≤ g)
    (hr : (w'.setCell ⟨e, i, none⟩ v').heap[e]? = some (.cells #[.pointer (some ⟨p 0, 0, none⟩), .pointer (some ⟨p 1, 0, none⟩), upd vl i v' 2, upd vl i v' 3, upd vl i v' 4, upd vl i v' 5, upd vl i v' 6, upd vl i v' 7, .int .u32 0, .int .u32 0, .int .u32 0, .int .u32 0, .bool false] 36 (0, 0))) :
    Em B e p (upd vl i v') (upd Fp i (fun g => v'.ownBlock = some g)) n ⟨S.L, upd S.ls i A'⟩ (w'.setCell ⟨e, i, none⟩ v') ∧ Below B w (w'.setCell ⟨e, i, none⟩ v') := by
  obtain ⟨_, hfi⟩ := h.ls i hi hi8
  have hke : Kp (fun g => g = e) w' (w'.setCell ⟨e, i, none⟩ v') := Kp.setCell _ _ _ _ rfl
  have hk2 : Kp (fun g => (vl i).ownBlock = some g ∨ g = e) w (w'.setCell ⟨e, i, none⟩ v') := (hk.mono fun g hg => .inl hg).trans (hke.mono fun g hg => .inr hg)
  have hot : ∀ j, j < 8 → j ≠ i → ∀ g, Fp j g → ¬ ((vl i).ownBlock = some g ∨ g = e) := fun j hj hji g hg e' => by
    rcases e' with e' | e'
    · exact h.dis j i (by omega) (by omega) hji g hg ((hfi g).2 e')
    · exact h.dis j 8 (by omega) (by omega) (by omega) g hg ((h.box g).2 e')
  have hve : v'.ownBlock ≠ some e := fun e' => by
    rcases hf e e' with k | k
    · exact h.dis i 8 (by omega) (by omega) (by omega) e ((hfi e).2 k) ((h.box e).2 rfl)
    · have := lt_heap h.row
      omega
  refine ⟨⟨hr, fun j hj => ?_, fun j j2 j8 => ?_, fun g => ?_, fun a b ha hb hab g hg e' => ?_, h.lo⟩, hk2.below h.hB fun g hg => ?_⟩
  · obtain ⟨vj, mj, uj, k1, k2⟩ := h.lk j hj
    exact ⟨vj, mj, uj, k1.kp hk2 fun g hg => hot j (by omega) (by omega) g ((k2 g).2 hg), fun g => by rw [upd_other _ _ (by omega)]; exact k2 g⟩
  · by_cases hji : j = i
    · subst hji
      rw [upd_same, upd_same, show (⟨S.L, upd S.ls j A'⟩ : Es).ls j = A' from upd_same _ _ _]
      exact ⟨hl.kp hke fun g hg e' => hve (e' ▸ hg), fun g => Iff.rfl⟩
    · obtain ⟨k1, k2⟩ := h.ls j j2 j8
      rw [upd_other _ _ hji, upd_other _ _ hji, show (⟨S.L, upd S.ls i A'⟩ : Es).ls j = S.ls j from upd_other _ _ hji]
      exact ⟨k1.kp hk2 fun g hg => hot j j8 hji g ((k2 g).2 hg), k2⟩
  · rw [upd_other _ _ (by omega)]
    exact h.box g
  · by_cases hai : a = i
    · subst hai
      rw [upd_same] at hg
      rw [upd_other _ _ (fun e => hab e.symm)] at e'
      rcases hf g hg with k | k
      · exact h.dis a b ha hb hab g ((hfi g).2 k) e'
      · have := (h.fb hb e').2
        omega
    · rw [upd_other _ _ hai] at hg
      by_cases hbi : b = i
      · subst hbi
        rw [upd_same] at e'
        rcases hf g e' with k | k
        · exact h.dis a b ha hb hab g hg ((hfi g).2 k)
        · have := (h.fb ha hg).2
          omega
      · rw [upd_other _ _ hbi] at e'
        exact h.dis a b ha hb hab g hg e'
  · rcases hg with hg | hg
    · exact (h.fb (by omega) ((hfi g).2 hg)).1
    · rw [hg]
      exact h.lo
/- an end is a new one now -/
theorem Em.anew {B e n i s' : Nat} {p : Nat → Nat} {vl : Nat → Value} {Fp : Nat → Nat → Prop} {S : Es} {x' : Ls} {v' m' u' : Value} {w : World} (h : Em B e p vl Fp n S w) (hi : i < 2)
    (h1 : Lkm B s' v' m' u' n x' w) (h3 : ∀ g, Lf s' v' m' u' g → ∀ j, j < 9 → ¬ Fp j g)
    (hr : (w.setCell ⟨e, i, none⟩ (.pointer (some ⟨s', 0, none⟩))).heap[e]? = some (.cells #[.pointer (some ⟨upd p i s' 0, 0, none⟩), .pointer (some ⟨upd p i s' 1, 0, none⟩), vl 2, vl 3, vl 4, vl 5, vl 6, vl 7, .int .u32 0, .int .u32 0, .int .u32 0, .int .u32 0, .bool false] 36 (0, 0))) :
    Em B e (upd p i s') vl (upd Fp i (Lf s' v' m' u')) n ⟨upd S.L i x', S.ls⟩ (w.setCell ⟨e, i, none⟩ (.pointer (some ⟨s', 0, none⟩))) ∧ Below B w (w.setCell ⟨e, i, none⟩ (.pointer (some ⟨s', 0, none⟩))) := by
  have hke : Kp (fun g => g = e) w (w.setCell ⟨e, i, none⟩ (.pointer (some ⟨s', 0, none⟩))) := Kp.setCell _ _ _ _ rfl
  have hot : ∀ j, j < 8 → ∀ g, Fp j g → ¬ g = e := fun j hj g hg e' => h.dis j 8 (by omega) (by omega) (by omega) g hg ((h.box g).2 e')
  refine ⟨⟨hr, fun j hj => ?_, fun j j2 j8 => ?_, fun g => ?_, fun a b ha hb hab g hg e' => ?_, h.lo⟩, hke.below h.hB fun g hg => hg ▸ h.lo⟩
  · by_cases hji : j = i
    · subst hji
      rw [show (⟨upd S.L j x', S.ls⟩ : Es).L j = x' from upd_same _ _ _, upd_same, upd_same]
      exact ⟨v', m', u', h1.kp hke fun g hg e' => h3 g hg 8 (by omega) ((h.box g).2 e'), fun g => Iff.rfl⟩
    · obtain ⟨vj, mj, uj, k1, k2⟩ := h.lk j hj
      rw [show (⟨upd S.L i x', S.ls⟩ : Es).L j = S.L j from upd_other _ _ hji, upd_other _ _ hji, upd_other _ _ hji]
      exact ⟨vj, mj, uj, k1.kp hke fun g hg => hot j (by omega) g ((k2 g).2 hg), k2⟩
  · obtain ⟨k1, k2⟩ := h.ls j j2 j8
    exact ⟨k1.kp hke fun g hg => hot j j8 g ((k2 g).2 hg), fun g => by rw [upd_other _ _ (by omega)]; exact k2 g⟩
  · rw [upd_other _ _ (by omega)]
    exact h.box g
  · by_cases hai : a = i
    · subst hai
      rw [upd_same] at hg
      rw [upd_other _ _ (fun e => hab e.symm)] at e'
      exact h3 g hg b hb e'
    · rw [upd_other _ _ hai] at hg
      by_cases hbi : b = i
      · subst hbi
        rw [upd_same] at e'
        exact h3 g e' a ha hg
      · rw [upd_other _ _ hbi] at e'
        exact h.dis a b ha hb hab g hg e'

/- its cells -/
theorem box13 {w : World} {g : Nat} {x0 x1 x2 x3 x4 x5 x6 x7 x8 x9 xa xb xc : Value} {t : TypeId} (h : w.heap[g]? = some (.cells #[x0, x1, x2, x3, x4, x5, x6, x7, x8, x9, xa, xb, xc] t (0, 0))) : (w.cell? ⟨g, 0, none⟩ = some x0 ∧ w.cell? ⟨g, 1, none⟩ = some x1 ∧ w.cell? ⟨g, 2, none⟩ = some x2 ∧ w.cell? ⟨g, 3, none⟩ = some x3) ∧ (w.cell? ⟨g, 4, none⟩ = some x4 ∧ w.cell? ⟨g, 5, none⟩ = some x5 ∧ w.cell? ⟨g, 6, none⟩ = some x6 ∧ w.cell? ⟨g, 7, none⟩ = some x7) ∧ ∀ j, w.frozen? ⟨g, j, none⟩ = false :=
  ⟨⟨by rw [cell_of_row w g 0 _ _ _ h]; rfl, by rw [cell_of_row w g 1 _ _ _ h]; rfl, by rw [cell_of_row w g 2 _ _ _ h]; rfl, by rw [cell_of_row w g 3 _ _ _ h]; rfl⟩, ⟨by rw [cell_of_row w g 4 _ _ _ h]; rfl, by rw [cell_of_row w g 5 _ _ _ h]; rfl, by rw [cell_of_row w g 6 _ _ _ h]; rfl, by rw [cell_of_row w g 7 _ _ _ h]; rfl⟩, fun j => frozen_of_row w g j _ _ h⟩

end Go.Proofs.Ytcadlcpccemkbaa
