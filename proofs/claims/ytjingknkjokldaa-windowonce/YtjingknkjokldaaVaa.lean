/- What is sent, what comes, what was told: pure; all three in memory. -/
import Derived.Test.YtjingknkjokldaaVg
import Derived.Test.YtjingknkjokldaaVn
import Derived.Test.YtjingknkjokldaaVx
import Derived.Test.YtjingknkjokldaaVy
namespace Go.Proofs.Ytjingknkjokldaa
open Go.RowKit
set_option maxRecDepth 100000

theorem pend_at : ∀ (k : Nat) (S : List ByteArray) (p : Nat), p < S.length → kAt (pend k S) p = k + p ∧ sAt (pend k S) p = S.getD p ByteArray.empty
  | _, [], p, h => by simp at h
  | k, s :: S, 0, _ => ⟨rfl, rfl⟩
  | k, s :: S, p + 1, h => by
    obtain ⟨h1, h2⟩ := pend_at (k + 1) S p (by simpa using h)
    refine ⟨?_, h2⟩
    have : kAt (pend k (s :: S)) (p + 1) = kAt (pend (k + 1) S) p := rfl
    rw [this, h1]
    omega

/- what is held is what was sent under that number -/
def Tr (A : List ByteArray) (n : Nat) (l : List (Nat × ByteArray)) : Prop := ∀ p ∈ l, p.1 ≤ n ∧ 1 ≤ p.1 ∧ A[p.1 - 1]? = some p.2
theorem tr_told {A : List ByteArray} {n : Nat} : ∀ {a : Nat} {l : List (Nat × ByteArray)}, Tr A n l → a ≤ n → A.take a ++ stO (a + 1) l = A.take (a + (stO (a + 1) l).length) ∧ a + (stO (a + 1) l).length ≤ n
  | a, [], _, ha => by simp [stO, ha]
  | a, p :: l, h, ha => by
    rw [stO]
    split
    · rename_i e
      obtain ⟨h1, h2, h3⟩ := h p (by simp)
      obtain ⟨h4, h5⟩ := tr_told (a := a + 1) (l := l) (fun q hq => h q (by simp [hq])) (by omega)
      rw [e, Nat.add_sub_cancel] at h3
      have e1 : A.take (a + 1) = A.take a ++ [p.2] := by rw [List.take_add_one, h3]; rfl
      rw [e1, List.append_assoc] at h4
      simp only [List.length_cons]
      rw [show a + ((stO (a + 1 + 1) l).length + 1) = a + 1 + (stO (a + 1 + 1) l).length by omega]
      exact ⟨h4, h5⟩
    · simp [ha]
structure Wk (A : List ByteArray) (n k a : Nat) (l : List (Nat × ByteArray)) : Prop where
  ka : k ≤ a
  an : a ≤ n
  nM : n ≤ A.length
  win : n ≤ k + 16
  hd : Hd a l
  own : Tr A n l
theorem Wk.none (A : List ByteArray) : Wk A 0 0 0 [] := ⟨Nat.le_refl _, Nat.le_refl _, Nat.zero_le _, Nat.zero_le _, Hd.none 0, fun p hp => by simp at hp⟩
theorem Wk.put {A : List ByteArray} {n k a : Nat} {l : List (Nat × ByteArray)} (h : Wk A n k a l) (h1 : n < A.length) (h2 : n < k + 16) : Wk A (n + 1) k a l :=
  ⟨h.ka, by have := h.an; omega, by omega, by omega, h.hd, fun p hp => by obtain ⟨e1, e2, e3⟩ := h.own p hp; exact ⟨by omega, e2, e3⟩⟩
theorem sent_len {A : List ByteArray} {n k : Nat} (h : n ≤ A.length) : ((A.take n).drop k).length = n - k := by
  rw [List.length_drop, List.length_take, Nat.min_eq_left h]
theorem sent_put {A : List ByteArray} {n k : Nat} (h1 : n < A.length) (hk : k ≤ n) : (A.take n).drop k ++ [A.getD n ByteArray.empty] = (A.take (n + 1)).drop k := by
  have e : A.take (n + 1) = A.take n ++ [A.getD n ByteArray.empty] := by
    rw [List.take_add_one, List.getElem?_eq_getElem h1]
    simp [List.getD, List.getElem?_eq_getElem h1]
  rw [e, List.drop_append_of_le_length (by rw [List.length_take, Nat.min_eq_left (Nat.le_of_lt h1)]; exact hk)]
theorem sent_at {A : List ByteArray} {n k p : Nat} (h : n ≤ A.length) (hp : p < n - k) : A[k + p]? = some (((A.take n).drop k).getD p ByteArray.empty) := by
  have e : ((A.take n).drop k)[p]? = A[k + p]? := by
    rw [List.getElem?_drop, List.getElem?_take_of_lt (by omega)]
  rw [List.getD, e, List.getElem?_eq_getElem (by omega)]
  rfl
theorem Wk.take {A : List ByteArray} {n k a p : Nat} {l : List (Nat × ByteArray)} {b : ByteArray} (h : Wk A n k a l) (hp : p < n - k) (hb : A[k + p]? = some b) :
    (chkC a (lk l) (k + 1 + p) = 0 ∨ chkC a (lk l) (k + 1 + p) = 21) ∧ Wk A n k (tkA a l (k + 1 + p) b) (tkR a l (k + 1 + p) b) ∧ A.take a ++ tkO a l (k + 1 + p) b = A.take (tkA a l (k + 1 + p) b) := by
  obtain ⟨h1, h2, h3, h4, h5, h6⟩ := h
  have hhd := h5.take (q := k + 1 + p) (b := b)
  unfold tkA tkR tkO at *
  by_cases hc : chkC a (lk l) (k + 1 + p) = 0
  · rw [if_pos hc] at hhd ⊢
    rw [if_pos hc] at hhd ⊢
    have ht : Tr A n (ins (k + 1 + p) b l) := fun x hx => by
      rcases mem_ins.1 hx with rfl | hx
      · exact ⟨by simp only; omega, by simp only; omega, by simp only; rw [show k + 1 + p - 1 = k + p by omega]; exact hb⟩
      · exact h6 x hx
    obtain ⟨h7, h8⟩ := tr_told ht h2
    exact ⟨.inl hc, ⟨by omega, h8, h3, h4, hhd, fun x hx => ht x (stR_sub hx)⟩, h7⟩
  · rw [if_neg hc] at hhd ⊢
    rw [if_neg hc] at hhd ⊢
    refine ⟨.inr ?_, ⟨by simp; omega, by simp; omega, h3, h4, hhd, h6⟩, by simp⟩
    unfold chkC at hc ⊢
    by_cases hq : k + 1 + p < a + 1 ∨ (lk l (k + 1 + p)).isSome = true
    · rw [if_pos hq]
    · rw [if_neg hq] at hc
      rw [if_neg (by omega)] at hc
      exact absurd rfl hc
theorem Wk.ack {A : List ByteArray} {n k a : Nat} {l : List (Nat × ByteArray)} (h : Wk A n k a l) :
    akC k ((A.take n).drop k) (a + 1) = 0 ∧ akK k ((A.take n).drop k) (a + 1) = a ∧ akL k ((A.take n).drop k) (a + 1) = (A.take n).drop a ∧ Wk A n a a l := by
  obtain ⟨h1, h2, h3, h4, h5, h6⟩ := h
  have hl := sent_len (k := k) h3
  have hc : akC k ((A.take n).drop k) (a + 1) = 0 := by
    unfold akC
    rw [hl, if_neg (by omega)]
  unfold akK akL
  rw [if_pos hc, if_pos hc, List.drop_drop]
  refine ⟨hc, by omega, ?_, ⟨Nat.le_refl _, h2, h3, by omega, h5, h6⟩⟩
  rw [show k + (a + 1 - 1 - k) = a by omega]

/- all three in memory -/
structure On (B s t : Nat) (v m gv : Value) (k : Nat) (S : List ByteArray) (a nn : Nat) (l : List (Nat × ByteArray)) (G : List ByteArray) (w : World) : Prop where
  ot : Otm B s v k S w
  inm : Inm t m a nn (lk l) w
  gl : Lst B w gv G
  bs : B ≤ s
  bt : B ≤ t
  bm : ∀ g, mblk m = some g → B ≤ g
  d1 : ∀ g, Ofm s v g → ¬ Inf t m g
  d2 : ∀ g, gv.ownBlock = some g → ¬ Ofm s v g
  d3 : ∀ g, gv.ownBlock = some g → ¬ Inf t m g
theorem On.below {B s t k a nn : Nat} {v m gv : Value} {S G : List ByteArray} {l : List (Nat × ByteArray)} {w w' : World} (h : On B s t v m gv k S a nn l G w) (hb : Below w.heap.size w w') : On B s t v m gv k S a nn l G w' :=
  ⟨h.ot.below hb (Nat.le_refl _), h.inm.below hb (Nat.le_refl _), h.gl.below hb (Nat.le_refl _), h.bs, h.bt, h.bm, h.d1, h.d2, h.d3⟩
theorem On.sent {B s t k a nn k' : Nat} {v m gv v' : Value} {S G S' : List ByteArray} {l : List (Nat × ByteArray)} {w w' : World} (h : On B s t v m gv k S a nn l G w) (hB : B ≤ w.heap.size) (ho : Otm B s v' k' S' w') (hk : Kp (Ofm s v) w w') (hf : ∀ g, v'.ownBlock = some g → v.ownBlock = some g ∨ w.heap.size ≤ g) :
    On B s t v' m gv k' S' a nn l G w' ∧ Below B w w' := by
  refine ⟨⟨ho, h.inm.kp hk fun g hg e => h.d1 g e hg, h.gl.kp hk fun g hg e => h.d2 g hg e, h.bs, h.bt, h.bm, fun g hg hi => ?_, fun g hg ho => ?_, h.d3⟩, hk.below hB fun g hg => ?_⟩
  · rcases hg with e | e
    · exact h.d1 g (.inl e) hi
    · rcases hf g e with e | e
      · exact h.d1 g (.inr e) hi
      · have := h.inm.flt hi
        omega
  · rcases ho with e | e
    · exact h.d2 g hg (.inl e)
    · rcases hf g e with e | e
      · exact h.d2 g hg (.inr e)
      · have := (h.gl.lt hg).2
        omega
  · rcases hg with e | e
    · rw [e]; exact h.bs
    · exact (h.ot.ls.lt e).1
theorem On.came {B s t k a nn a' nn' : Nat} {v m gv m' : Value} {S G : List ByteArray} {l l' : List (Nat × ByteArray)} {w w' : World} (h : On B s t v m gv k S a nn l G w) (hB : B ≤ w.heap.size) (hi : Inm t m' a' nn' (lk l') w') (hk : Kp (Inf t m) w w') (hf : ∀ g, mblk m' = some g → mblk m = some g ∨ w.heap.size ≤ g) :
    On B s t v m' gv k S a' nn' l' G w' ∧ Below B w w' := by
  refine ⟨⟨h.ot.kp hk fun g hg e => h.d1 g hg e, hi, h.gl.kp hk fun g hg e => h.d3 g hg e, h.bs, h.bt, fun g hg => ?_, fun g hg hi => ?_, h.d2, fun g hg hi => ?_⟩, hk.below hB fun g hg => ?_⟩
  · rcases hf g hg with e | e
    · exact h.bm g e
    · omega
  · rcases hi with e | e
    · exact h.d1 g hg (.inl e)
    · rcases hf g e with e | e
      · exact h.d1 g hg (.inr e)
      · have := h.ot.flt hg
        omega
  · rcases hi with e | e
    · exact h.d3 g hg (.inl e)
    · rcases hf g e with e | e
      · exact h.d3 g hg (.inr e)
      · have := (h.gl.lt hg).2
        omega
  · rcases hg with e | e
    · rw [e]; exact h.bt
    · exact h.bm g e
theorem On.told {B s t k a nn : Nat} {v m gv gv' : Value} {S G G' : List ByteArray} {l : List (Nat × ByteArray)} {w w' : World} (h : On B s t v m gv k S a nn l G w) (hB : B ≤ w.heap.size) (hg : Lst B w' gv' G') (hk : w.grownBy w' gv.ownBlock) (hf : ∀ g, gv'.ownBlock = some g → gv.ownBlock = some g ∨ w.heap.size ≤ g) :
    On B s t v m gv' k S a nn l G' w' ∧ Below B w w' := by
  have hk' := Kp.ofGrown hk
  refine ⟨⟨h.ot.kp hk' fun g hg e => h.d2 g e hg, h.inm.kp hk' fun g hg e => h.d3 g e hg, hg, h.bs, h.bt, h.bm, h.d1, fun g hg ho => ?_, fun g hg hi => ?_⟩, hk'.below hB fun g hg => ?_⟩
  · rcases hf g hg with e | e
    · exact h.d2 g e ho
    · have := h.ot.flt ho
      omega
  · rcases hf g hg with e | e
    · exact h.d3 g e hi
    · have := h.inm.flt hi
      omega
  · exact (h.gl.lt hg).1
theorem On.start (w : World) : On w.heap.size w.heap.size (w.heap.size + 1) (.slice none 0 0) (.map none) (.slice none 0 0) 0 [] 0 0 [] [] ((w.alloc (.cells #[.int .u32 0, .slice none 0 0] 63)).alloc (.cells #[.int .u32 0, .map none] 51)) := by
  have hw1 : (w.alloc (.cells #[.int .u32 0, .slice none 0 0] 63)).heap.size = w.heap.size + 1 := by simp
  have h0 : Otm w.heap.size w.heap.size (.slice none 0 0) 0 [] (w.alloc (.cells #[.int .u32 0, .slice none 0 0] 63)) := ⟨heap_alloc_new _ _, Lst.nil _ _, fun h => by cases h⟩
  have h1 := Inm.zero (w.alloc (.cells #[.int .u32 0, .slice none 0 0] 63))
  rw [hw1] at h1
  refine ⟨h0.below (below1 _) (Nat.le_refl _), h1, Lst.nil _ _, Nat.le_refl _, by omega, fun g h => (by cases h), fun g hg hi => ?_, fun g h => (by cases h), fun g h => (by cases h)⟩
  rcases hg with e | e
  · rcases hi with e2 | e2
    · omega
    · cases e2
  · cases e

end Go.Proofs.Ytjingknkjokldaa
