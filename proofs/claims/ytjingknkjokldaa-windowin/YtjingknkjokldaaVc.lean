/- An In of the program's beside one of the document's. -/
import Derived.Test.YtjingknkjokldaaVz
import Derived.Test.YtjingknkjokldaaVx
import Derived.Test.YtjingknkjokldaaVy
namespace Go.Proofs.Ytjingknkjokldaa
open Go.RowKit
set_option maxRecDepth 100000
attribute [local go_sem] not_any

theorem Rnl.lt {w : World} {u : Value} {l : List (Nat × ByteArray)} (h : Rnl w u l) (hl : l ≠ []) {g : Nat} (hg : u.ownBlock = some g) : g < w.heap.size := by
  obtain ⟨a, c, rfl, hc⟩ := h
  obtain ⟨g', o, rfl, h1, _⟩ := hc 0 (by cases l with | nil => exact absurd rfl hl | cons => simp)
  cases hg
  exact World.block_lt_of_cell? w _ h1
theorem Rnl.kp2 {F : Nat → Prop} {w w' : World} {v : Value} {l : List (Nat × ByteArray)} (h : Rnl w v l) (hk : Kp F w w') (hF : l ≠ [] → ∀ g, v.ownBlock = some g → ¬ F g) : Rnl w' v l := by
  by_cases hl : l = []
  · obtain ⟨a, c, rfl, _⟩ := h
    rw [hl]
    exact ⟨a, c, rfl, fun j hj => by simp at hj⟩
  · exact h.kp hk (hF hl)

theorem rtake_any {a q : Nat} {u : Value} {l : List (Nat × ByteArray)} {b : ByteArray} {w : World} (h : Rnl w u l) (hd : Hd a l) (ha : a + 100 < 4294967296) (hq : q < 4294967296) :
    Calls Try.prog 21 #[.agg #[.int .i64 ((a + 1 : Nat) : Int), u], .int .i64 (q : Int), .string b] w fun e w' => ∃ u' v, e = .returned (.tuple #[.agg #[.int .i64 ((tkA a l q b + 1 : Nat) : Int), u'], v, .int .i64 (chkC a (lk l) q)]) ∧ Rnl w' u' (tkR a l q b) ∧ Lst w.heap.size w' v (tkO a l q b) ∧ Below w.heap.size w w' ∧ (tkR a l q b ≠ [] → ∀ g, u'.ownBlock = some g → (u.ownBlock = some g ∧ g < w.heap.size ∧ l ≠ []) ∨ w.heap.size ≤ g) := by
  unfold tkA tkR tkO
  by_cases hc : chkC a (lk l) q = 0
  · rw [if_pos hc, if_pos hc, hc]
    refine (rtake_ok h hd hc ha).mono ?_
    rintro e w' ⟨u', v, rfl, h1, h2, h3, h4⟩
    exact ⟨u', v, rfl, h1, h2, h3, fun _ g hg => .inr (h4 g hg)⟩
  · rw [if_neg hc, if_neg hc]
    have fin : ∀ (c : Nat), (Calls Try.prog 21 #[.agg #[.int .i64 ((a + 1 : Nat) : Int), u], .int .i64 (q : Int), .string b] w fun e w' => e = .returned (.tuple #[.agg #[.int .i64 ((a + 1 : Nat) : Int), u], .slice none 0 0, .int .i64 (c : Int)]) ∧ Below w.heap.size w w') →
        Calls Try.prog 21 #[.agg #[.int .i64 ((a + 1 : Nat) : Int), u], .int .i64 (q : Int), .string b] w fun e w' => ∃ u' v, e = .returned (.tuple #[.agg #[.int .i64 ((a + ([] : List ByteArray).length + 1 : Nat) : Int), u'], v, .int .i64 (c : Int)]) ∧ Rnl w' u' l ∧ Lst w.heap.size w' v [] ∧ Below w.heap.size w w' ∧ (l ≠ [] → ∀ g, u'.ownBlock = some g → (u.ownBlock = some g ∧ g < w.heap.size ∧ l ≠ []) ∨ w.heap.size ≤ g) := fun c k => by
      refine k.mono ?_
      rintro e w' ⟨rfl, hb⟩
      exact ⟨u, _, rfl, h.below hb (Nat.le_refl _), Lst.nil _ _, hb, fun hl g hg => .inl ⟨hg, h.lt hl hg, hl⟩⟩
    unfold chkC at hc ⊢
    by_cases h1 : q < a + 1
    · rw [if_pos (.inl h1)]
      obtain ⟨u1, c, rfl, _⟩ := id h
      exact fin 21 (rtake_old a q u1 l.length c b w h1)
    · by_cases h2 : (lk l q).isSome
      · rw [if_pos (.inr h2)]
        have h17 : q < a + 17 := by
          obtain ⟨p, hp, e⟩ := lk_isSome.1 h2
          have := hd.upto p hp
          omega
        exact fin 21 (rtake_held h hd (by omega) h17 h2 hq)
      · have hn : ¬ (q < a + 1 ∨ (lk l q).isSome = true) := by simp [h1, h2]
        rw [if_neg hn] at hc ⊢
        by_cases h3 : 16 ≤ q - (a + 1)
        · rw [if_pos h3]
          obtain ⟨u1, c, rfl, _⟩ := id h
          exact fin 23 (rtake_far a q u1 l.length c b w (by omega) hq)
        · rw [if_neg h3] at hc
          exact absurd rfl hc

/- both in memory -/
structure Bi (B s r : Nat) (m u : Value) (a n : Nat) (l : List (Nat × ByteArray)) (w : World) : Prop where
  inm : Inm s m a n (lk l) w
  row : w.heap[r]? = some (.cells #[.int .i64 ((a + 1 : Nat) : Int), u] 53 (0, 0))
  rd : Rnl w u l
  bs : B ≤ s
  br : B ≤ r
  bm : ∀ g, mblk m = some g → B ≤ g
  nsr : s ≠ r
  nmr : mblk m ≠ some r
  nu : l ≠ [] → ∀ g, u.ownBlock = some g → g ≠ s ∧ g ≠ r ∧ mblk m ≠ some g
theorem Bi.below {B s r a n : Nat} {m u : Value} {l : List (Nat × ByteArray)} {w w' : World} (h : Bi B s r m u a n l w) (hb : Below w.heap.size w w') : Bi B s r m u a n l w' :=
  ⟨h.inm.below hb (Nat.le_refl _), (hb.block r (lt_heap h.row)).trans h.row, h.rd.below hb (Nat.le_refl _), h.bs, h.br, h.bm, h.nsr, h.nmr, h.nu⟩
/- the program's took a body -/
structure Bj (B s r : Nat) (m u : Value) (a a' n : Nat) (l l' : List (Nat × ByteArray)) (w : World) : Prop where
  inm : Inm s m a' n (lk l') w
  row : w.heap[r]? = some (.cells #[.int .i64 ((a + 1 : Nat) : Int), u] 53 (0, 0))
  rd : Rnl w u l
  bs : B ≤ s
  br : B ≤ r
  bm : ∀ g, mblk m = some g → B ≤ g
  nsr : s ≠ r
  nmr : mblk m ≠ some r
  nu : l ≠ [] → ∀ g, u.ownBlock = some g → g ≠ s ∧ g ≠ r ∧ mblk m ≠ some g
theorem Bj.below {B s r a a' n : Nat} {m u : Value} {l l' : List (Nat × ByteArray)} {w w' : World} (h : Bj B s r m u a a' n l l' w) (hb : Below w.heap.size w w') : Bj B s r m u a a' n l l' w' :=
  ⟨h.inm.below hb (Nat.le_refl _), (hb.block r (lt_heap h.row)).trans h.row, h.rd.below hb (Nat.le_refl _), h.bs, h.br, h.bm, h.nsr, h.nmr, h.nu⟩
theorem Bi.took {B s r a n a' n' : Nat} {m m' u : Value} {l l' : List (Nat × ByteArray)} {w w' : World} (h : Bi B s r m u a n l w) (hB : B ≤ w.heap.size) (hi : Inm s m' a' n' (lk l') w') (hk : Kp (Inf s m) w w') (hf : ∀ g, mblk m' = some g → mblk m = some g ∨ w.heap.size ≤ g) : Bj B s r m' u a a' n' l l' w' ∧ Below B w w' := by
  refine ⟨⟨hi, (hk.block r (lt_heap h.row) ?_).trans h.row, h.rd.kp2 hk fun hl g hg hF => ?_, h.bs, h.br, fun g hg => ?_, h.nsr, fun e => ?_, fun hl g hg => ?_⟩, ?_⟩
  · rintro (e | e)
    · exact h.nsr e.symm
    · exact h.nmr e
  · obtain ⟨h1, _, h3⟩ := h.nu hl g hg
    rcases hF with e | e
    · exact h1 e
    · exact h3 e
  · rcases hf g hg with h1 | h1
    · exact h.bm g h1
    · omega
  · rcases hf r e with h1 | h1
    · exact h.nmr h1
    · have := lt_heap h.row
      omega
  · obtain ⟨h1, h2, h3⟩ := h.nu hl g hg
    refine ⟨h1, h2, fun e => ?_⟩
    rcases hf g e with h4 | h4
    · exact h3 h4
    · have := h.rd.lt hl hg
      omega
  · refine hk.below hB fun g hg => ?_
    rcases hg with e | e
    · rw [e]; exact h.bs
    · exact h.bm g e
/- the document's In is another now -/
theorem Bj.stored {B s r a a' n : Nat} {m u u' : Value} {l l' : List (Nat × ByteArray)} {w w' : World} (h : Bj B s r m u a a' n l l' w) (hb : Below w.heap.size w w') (hr : Rnl w' u' l') (hu : l' ≠ [] → ∀ g, u'.ownBlock = some g → (u.ownBlock = some g ∧ g < w.heap.size ∧ l ≠ []) ∨ w.heap.size ≤ g) :
    Bi B s r m u' a' n l' ((w'.setCell ⟨r, 0, none⟩ (.int .i64 ((a' + 1 : Nat) : Int))).setCell ⟨r, 1, none⟩ u') := by
  have hk : Kp (fun g => g = r) w' ((w'.setCell ⟨r, 0, none⟩ (.int .i64 ((a' + 1 : Nat) : Int))).setCell ⟨r, 1, none⟩ u') := (Kp.setCell (F := fun g => g = r) w' r 0 _ rfl).trans (Kp.setCell (F := fun g => g = r) _ r 1 _ rfl)
  have h1 := h.below hb
  have hne : l' ≠ [] → ∀ g, u'.ownBlock = some g → g ≠ s ∧ g ≠ r ∧ mblk m ≠ some g := fun hl g hg => by
    rcases hu hl g hg with ⟨e, _, hl2⟩ | e
    · exact h.nu hl2 g e
    · have k1 := lt_heap h.inm.row
      have k2 := lt_heap h.row
      refine ⟨by omega, by omega, fun e2 => ?_⟩
      have := h.inm.mp.lt e2
      omega
  refine ⟨h1.inm.kp hk fun g hg e => ?_, set_box2 h1.row, hr.kp2 hk fun hl g hg e => (hne hl g hg).2.1 e, h.bs, h.br, h.bm, h.nsr, h.nmr, hne⟩
  subst e
  rcases hg with e | e
  · exact h.nsr e.symm
  · exact h.nmr e
theorem sz_take {a q : Nat} {l : List (Nat × ByteArray)} {b : ByteArray} (h : Sz l) (hb : b.size ≤ 281474976710656) : Sz (tkR a l q b) := by
  unfold tkR
  split
  · intro p hp
    rcases mem_ins.1 (stR_sub hp) with rfl | hp
    · exact hb
    · exact h p hp
  · exact h

end Go.Proofs.Ytjingknkjokldaa
