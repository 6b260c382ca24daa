/- An end of a link in memory: nine cells. An In in memory: Awaited, check. Pure: numbered bodies by rising numbers; one put among them; those taken that follow each other. -/
import Derived.Test.YtcadlcpccemkbaaVb
import Derived.Test.YtcadlcpccemkbaaVm
namespace Go.Proofs.Ytcadlcpccemkbaa
open Go.RowKit
set_option maxRecDepth 100000

/- the cells beside those of the In; beside those of the Out -/
structure IX where
  (c0 c1 c2 c3 c4 c5 c8 : Value)
structure OX where
  (c0 c1 c2 c3 c6 c7 c8 : Value)
theorem boxI {w : World} {g : Nat} {x0 x1 x2 x3 x4 x5 x6 x7 x8 : Value} {t : TypeId} (h : w.heap[g]? = some (.cells #[x0, x1, x2, x3, x4, x5, x6, x7, x8] t (0, 0))) : w.cell? ⟨g, 6, none⟩ = some x6 ∧ w.cell? ⟨g, 7, none⟩ = some x7 ∧ w.frozen? ⟨g, 6, none⟩ = false ∧ w.frozen? ⟨g, 7, none⟩ = false ∧ g < w.heap.size :=
  ⟨by rw [cell_of_row w g 6 _ _ _ h]; rfl, by rw [cell_of_row w g 7 _ _ _ h]; rfl, frozen_of_row w g 6 _ _ h, frozen_of_row w g 7 _ _ h, lt_heap h⟩
theorem boxO {w : World} {g : Nat} {x0 x1 x2 x3 x4 x5 x6 x7 x8 : Value} {t : TypeId} (h : w.heap[g]? = some (.cells #[x0, x1, x2, x3, x4, x5, x6, x7, x8] t (0, 0))) : w.cell? ⟨g, 4, none⟩ = some x4 ∧ w.cell? ⟨g, 5, none⟩ = some x5 ∧ w.frozen? ⟨g, 4, none⟩ = false ∧ w.frozen? ⟨g, 5, none⟩ = false ∧ g < w.heap.size :=
  ⟨by rw [cell_of_row w g 4 _ _ _ h]; rfl, by rw [cell_of_row w g 5 _ _ _ h]; rfl, frozen_of_row w g 4 _ _ h, frozen_of_row w g 5 _ _ h, lt_heap h⟩
/- the other cells -/
theorem boxS {w : World} {g : Nat} {x0 x1 x2 x3 x4 x5 x6 x7 x8 : Value} {t : TypeId} (h : w.heap[g]? = some (.cells #[x0, x1, x2, x3, x4, x5, x6, x7, x8] t (0, 0))) : w.cell? ⟨g, 0, none⟩ = some x0 ∧ w.cell? ⟨g, 1, none⟩ = some x1 ∧ w.cell? ⟨g, 2, none⟩ = some x2 ∧ w.cell? ⟨g, 3, none⟩ = some x3 ∧ w.cell? ⟨g, 8, none⟩ = some x8 :=
  ⟨by rw [cell_of_row w g 0 _ _ _ h]; rfl, by rw [cell_of_row w g 1 _ _ _ h]; rfl, by rw [cell_of_row w g 2 _ _ _ h]; rfl, by rw [cell_of_row w g 3 _ _ _ h]; rfl, by rw [cell_of_row w g 8 _ _ _ h]; rfl⟩

end Go.Proofs.Ytcadlcpccemkbaa

namespace Go.Proofs.Ytcadlcpccemkbaa
open Go.RowKit
set_option maxRecDepth 100000
attribute [local go_sem] not_any

structure Inm (Y : IX) (s : Nat) (m : Value) (a n : Nat) (f : Nat → Option ByteArray) (w : World) : Prop where
  row : w.heap[s]? = some (.cells #[Y.c0, Y.c1, Y.c2, Y.c3, Y.c4, Y.c5, .int .u32 (a : Int), m, Y.c8] 54 (0, 0))
  mp : Mp w m n f
  ne : mblk m ≠ some s
def Inf (s : Nat) (m : Value) (g : Nat) : Prop := g = s ∨ mblk m = some g
theorem Inm.kp {Y : IX} {F : Nat → Prop} {s a n : Nat} {m : Value} {f : Nat → Option ByteArray} {w w' : World} (h : Inm Y s m a n f w) (hk : Kp F w w') (hF : ∀ g, Inf s m g → ¬ F g) : Inm Y s m a n f w' :=
  ⟨(hk.block s (lt_heap h.row) (hF s (.inl rfl))).trans h.row, h.mp.kp hk fun b hb => hF b (.inr hb), h.ne⟩
theorem Inm.below {Y : IX} {s a n C : Nat} {m : Value} {f : Nat → Option ByteArray} {w w' : World} (h : Inm Y s m a n f w) (hb : Below C w w') (hC : w.heap.size ≤ C) : Inm Y s m a n f w' :=
  h.kp (F := fun _ => False) (Kp.ofBelow (hb.mono hC)) fun _ _ h => h
theorem Inm.flt {Y : IX} {s a n : Nat} {m : Value} {f : Nat → Option ByteArray} {w : World} (h : Inm Y s m a n f w) {g : Nat} (hg : Inf s m g) : g < w.heap.size := by
  rcases hg with rfl | hg
  · exact lt_heap h.row
  · exact h.mp.lt hg

theorem awaited_any {Y : IX} {s a n : Nat} {m : Value} {f : Nat → Option ByteArray} {w : World} (h : Inm Y s m a n f w) (ha : a + 1 < 4294967296) :
    Calls Try.prog 38 #[.pointer (some ⟨s, 6, none⟩)] w fun e w' => e = .returned (.int .u32 ((a + 1 : Nat) : Int)) ∧ w' = w := by
  obtain ⟨c0, c1, _, _, _⟩ := boxI h.row
  clear h
  go_enter Try.func38, Try.ntmps38
  go_wp2
  go_ret
  refine ⟨?_, rfl⟩
  go_num
/- what is wrong with a number that came -/
def chkC (a : Nat) (f : Nat → Option ByteArray) (q : Nat) : Nat := if q < a + 1 ∨ (f q).isSome then 21 else if 16 ≤ q - (a + 1) then 23 else 0

theorem check_any {Y : IX} {s a n : Nat} {m : Value} {f : Nat → Option ByteArray} {w : World} (h : Inm Y s m a n f w) (ha : a + 1 < 4294967296) (q : Nat) (hq : q < 4294967296) :
    Calls Try.prog 63 #[.pointer (some ⟨s, 6, none⟩), .int .u32 (q : Int)] w fun e w' => e = .returned (.int .i64 (chkC a f q)) ∧ Below w.heap.size w w' := by
  have kA := fun w' (hb : Below w.heap.size w w') => hide1 (awaited_any (h.below hb (Nat.le_refl _)) ha)
  have hlk := h.mp.look hq
  obtain ⟨c0, c1, _, _, _⟩ := boxI h.row
  obtain ⟨mb, rfl⟩ := h.mp.form
  have hb : Hid (∀ v, Below w.heap.size w (w.alloc v)) := fun v => below1 v
  obtain ⟨c, hc⟩ : ∃ c, chkC a f q = c := ⟨_, rfl⟩
  rw [hc]
  have HC := hide1 hc
  clear h hc
  cases hf : f q with
  | some t =>
    rw [hf] at hlk
    change _ = Result.ok (Value.tuple #[Value.agg #[.int .u32 (q : Int), .string t], .bool true]) w at hlk
    have hc : Hid (c = 21) := by unfold Hid; rw [← HC.out, chkC, if_pos (.inr (by rw [hf]; rfl))]
    clear hf
    go_enter Try.func63, Try.ntmps63
    go_wp2_with fail
    refine (kA _ (hb.out _)).out.mono ?_
    rintro e w1 ⟨rfl, hw1⟩
    obtain rfl := hw1.symm
    by_cases h1 : q < a + 1
    · have g1 : (q : Int) < ((a + 1 : Nat) : Int) := by omega
      go_wp2
      go_ret
      exact ⟨by rw [hc.out]; rfl, hb.out _⟩
    · have g1 : ¬ (q : Int) < ((a + 1 : Nat) : Int) := by omega
      go_wp2
      go_ret
      exact ⟨by rw [hc.out]; rfl, hb.out _⟩
  | none =>
    rw [hf] at hlk
    change _ = Result.ok (Value.tuple #[Value.agg #[.int .u32 0, .string ⟨#[]⟩], .bool false]) w at hlk
    have HF := hide1 hf
    clear hf
    go_enter Try.func63, Try.ntmps63
    go_wp2_with fail
    refine (kA _ (hb.out _)).out.mono ?_
    rintro e w1 ⟨rfl, hw1⟩
    obtain rfl := hw1.symm
    by_cases h1 : q < a + 1
    · have g1 : (q : Int) < ((a + 1 : Nat) : Int) := by omega
      go_wp2
      go_ret
      exact ⟨by rw [← HC.out, chkC, if_pos (.inl h1)]; rfl, hb.out _⟩
    · have g1 : ¬ (q : Int) < ((a + 1 : Nat) : Int) := by omega
      go_wp2_with fail
      refine (kA _ (hb.out _)).out.mono ?_
      rintro e w1 ⟨rfl, hw1⟩
      obtain rfl := hw1.symm
      by_cases h2 : 16 ≤ q - (a + 1)
      · have g2 : (16 : Int) ≤ (q : Int) - ((a + 1 : Nat) : Int) := by omega
        go_wp2
        go_ret
        exact ⟨by rw [← HC.out, chkC, if_neg (by rw [HF.out]; simp [h1]), if_pos h2]; rfl, hb.out _⟩
      · have g2 : ¬ (16 : Int) ≤ (q : Int) - ((a + 1 : Nat) : Int) := by omega
        go_wp2
        go_ret
        exact ⟨by rw [← HC.out, chkC, if_neg (by rw [HF.out]; simp [h1]), if_neg h2]; rfl, hb.out _⟩

end Go.Proofs.Ytcadlcpccemkbaa

namespace Go.Proofs.Ytcadlcpccemkbaa

def lk : List (Nat × ByteArray) → Nat → Option ByteArray
  | [], _ => none
  | p :: l, k => if k = p.1 then some p.2 else lk l k
def Srt (l : List (Nat × ByteArray)) : Prop := l.Pairwise fun p q => p.1 < q.1
def Low (n : Nat) (l : List (Nat × ByteArray)) : Prop := ∀ p ∈ l, n ≤ p.1
def Upto (n : Nat) (l : List (Nat × ByteArray)) : Prop := ∀ p ∈ l, p.1 < n
def ins (k : Nat) (s : ByteArray) : List (Nat × ByteArray) → List (Nat × ByteArray)
  | [] => [(k, s)]
  | p :: l => if k < p.1 then (k, s) :: p :: l else p :: ins k s l
/- the bodies that follow each other from n on; the others -/
def stO (n : Nat) : List (Nat × ByteArray) → List ByteArray
  | [] => []
  | p :: l => if p.1 = n then p.2 :: stO (n + 1) l else []
def stR (n : Nat) : List (Nat × ByteArray) → List (Nat × ByteArray)
  | [] => []
  | p :: l => if p.1 = n then stR (n + 1) l else p :: l

theorem lk_absent : ∀ {l : List (Nat × ByteArray)} {k : Nat}, (∀ p ∈ l, p.1 ≠ k) → lk l k = none
  | [], _, _ => rfl
  | p :: l, k, h => by
    rw [lk, if_neg (fun e => h p (by simp) e.symm)]
    exact lk_absent fun q hq => h q (by simp [hq])
theorem lk_some : ∀ {l : List (Nat × ByteArray)} {k : Nat} {s : ByteArray}, lk l k = some s → (k, s) ∈ l
  | [], _, _, h => by cases h
  | p :: l, k, s, h => by
    rw [lk] at h
    split at h
    · rename_i e
      cases h
      rw [e]
      simp
    · exact List.mem_cons_of_mem _ (lk_some h)
theorem lk_isSome {l : List (Nat × ByteArray)} {k : Nat} : (lk l k).isSome = true ↔ ∃ p ∈ l, p.1 = k := by
  constructor
  · intro h
    obtain ⟨s, hs⟩ := Option.isSome_iff_exists.1 h
    exact ⟨_, lk_some hs, rfl⟩
  · rintro ⟨p, hp, rfl⟩
    cases h : lk l p.1 with
    | some s => rfl
    | none =>
      exfalso
      induction l with
      | nil => simp at hp
      | cons q l ih =>
        rw [lk] at h
        split at h
        · cases h
        · rename_i hne
          rcases List.mem_cons.1 hp with e | hp'
          · exact hne (by rw [e])
          · exact ih hp' h
theorem lk_none {l : List (Nat × ByteArray)} {k : Nat} (h : lk l k = none) : ∀ p ∈ l, p.1 ≠ k := fun p hp e => by
  have := lk_isSome.2 ⟨p, hp, e⟩
  rw [h] at this
  cases this
theorem lk_tail {p : Nat × ByteArray} {l : List (Nat × ByteArray)} (h : Srt (p :: l)) : upd (lk (p :: l)) p.1 none = lk l := by
  obtain ⟨h1, _⟩ := List.pairwise_cons.1 h
  funext j
  by_cases hj : j = p.1
  · rw [hj, upd_same]
    exact (lk_absent fun q hq => by have := h1 q hq; omega).symm
  · rw [upd_other _ _ hj, lk, if_neg hj]
theorem mem_ins {k : Nat} {s : ByteArray} {p : Nat × ByteArray} : ∀ {l : List (Nat × ByteArray)}, p ∈ ins k s l ↔ p = (k, s) ∨ p ∈ l
  | [] => by simp [ins]
  | q :: l => by
    rw [ins]
    split
    · simp
    · simp only [List.mem_cons, mem_ins (l := l)]
      constructor
      · rintro (h | h | h)
        · exact .inr (.inl h)
        · exact .inl h
        · exact .inr (.inr h)
      · rintro (h | h | h)
        · exact .inr (.inl h)
        · exact .inl h
        · exact .inr (.inr h)
theorem srt_ins {k : Nat} {s : ByteArray} : ∀ {l : List (Nat × ByteArray)}, Srt l → (∀ p ∈ l, p.1 ≠ k) → Srt (ins k s l)
  | [], _, _ => by simp [ins, Srt]
  | q :: l, h, hn => by
    obtain ⟨h1, h2⟩ := List.pairwise_cons.1 h
    rw [ins]
    split
    · rename_i hlt
      refine List.pairwise_cons.2 ⟨fun p hp => ?_, h⟩
      rcases List.mem_cons.1 hp with rfl | hp
      · exact hlt
      · exact Nat.lt_trans hlt (h1 p hp)
    · rename_i hge
      refine List.pairwise_cons.2 ⟨fun p hp => ?_, srt_ins h2 fun p hp => hn p (by simp [hp])⟩
      rcases mem_ins.1 hp with rfl | hp
      · have := hn q (by simp)
        simp only
        omega
      · exact h1 p hp
theorem lk_ins {k : Nat} {s : ByteArray} : ∀ {l : List (Nat × ByteArray)}, (∀ p ∈ l, p.1 ≠ k) → lk (ins k s l) = upd (lk l) k (some s)
  | [], _ => by funext j; simp [ins, lk, upd]
  | q :: l, hn => by
    funext j
    have hq := hn q (by simp)
    rw [ins]
    split
    · simp only [lk, upd]
    · have ih := congrFun (lk_ins (s := s) (l := l) fun p hp => hn p (by simp [hp])) j
      simp only [lk, upd] at ih ⊢
      rw [ih]
      by_cases hj : j = k
      · subst hj
        rw [if_neg (fun e => hq e.symm), if_pos rfl, if_pos rfl]
      · simp [hj]
theorem ins_length {k : Nat} {s : ByteArray} : ∀ {l : List (Nat × ByteArray)}, (ins k s l).length = l.length + 1
  | [] => rfl
  | q :: l => by
    rw [ins]
    split
    · simp
    · simp [ins_length (l := l)]
theorem low_ins {k n : Nat} {s : ByteArray} {l : List (Nat × ByteArray)} (h : Low n l) (hk : n ≤ k) : Low n (ins k s l) := fun p hp => by
  rcases mem_ins.1 hp with rfl | hp
  · exact hk
  · exact h p hp
theorem upto_ins {k n : Nat} {s : ByteArray} {l : List (Nat × ByteArray)} (h : Upto n l) (hk : k < n) : Upto n (ins k s l) := fun p hp => by
  rcases mem_ins.1 hp with rfl | hp
  · exact hk
  · exact h p hp
/- the first one is the one that is awaited, or it is not there -/
theorem lk_first {n : Nat} {p : Nat × ByteArray} {l : List (Nat × ByteArray)} (h : Srt (p :: l)) (hlo : Low n (p :: l)) : lk (p :: l) n = if p.1 = n then some p.2 else none := by
  obtain ⟨h1, _⟩ := List.pairwise_cons.1 h
  rw [lk]
  by_cases e : p.1 = n
  · rw [if_pos e.symm, if_pos e]
  · rw [if_neg (fun e' => e e'.symm), if_neg e]
    have := hlo p (by simp)
    exact lk_absent fun q hq => by have := h1 q hq; omega
theorem srt_tail {p : Nat × ByteArray} {l : List (Nat × ByteArray)} (h : Srt (p :: l)) : Srt l := (List.pairwise_cons.1 h).2
theorem low_tail {p : Nat × ByteArray} {l : List (Nat × ByteArray)} (h : Srt (p :: l)) : Low (p.1 + 1) l := fun q hq => (List.pairwise_cons.1 h).1 q hq
theorem stR_sub : ∀ {n : Nat} {l : List (Nat × ByteArray)} {p : Nat × ByteArray}, p ∈ stR n l → p ∈ l
  | _, [], _, h => by simp [stR] at h
  | n, q :: l, p, h => by
    rw [stR] at h
    split at h
    · exact List.mem_cons_of_mem _ (stR_sub h)
    · exact h
theorem srt_stR : ∀ {n : Nat} {l : List (Nat × ByteArray)}, Srt l → Srt (stR n l)
  | _, [], h => h
  | n, q :: l, h => by
    rw [stR]
    split
    · exact srt_stR (srt_tail h)
    · exact h
theorem stO_le : ∀ {n : Nat} {l : List (Nat × ByteArray)}, (stO n l).length ≤ l.length
  | _, [] => by simp [stO]
  | n, q :: l => by
    rw [stO]
    split
    · simp only [List.length_cons]
      have := stO_le (n := n + 1) (l := l)
      omega
    · simp
theorem stR_len : ∀ {n : Nat} {l : List (Nat × ByteArray)}, (stR n l).length + (stO n l).length = l.length
  | _, [] => rfl
  | n, q :: l => by
    rw [stO, stR]
    split
    · simp only [List.length_cons]
      have := stR_len (n := n + 1) (l := l)
      omega
    · simp
/- what is left has greater numbers than the one that is awaited then -/
theorem low_stR : ∀ {n : Nat} {l : List (Nat × ByteArray)}, Srt l → Low n l → Low (n + (stO n l).length + 1) (stR n l)
  | n, [], _, _ => by simp [stR, Low]
  | n, q :: l, h, hlo => by
    rw [stO, stR]
    split
    · rename_i e
      have h1 := low_stR (srt_tail h) (e ▸ low_tail h)
      simp only [List.length_cons]
      rw [show n + ((stO (n + 1) l).length + 1) + 1 = n + 1 + (stO (n + 1) l).length + 1 by omega]
      exact h1
    · rename_i e
      intro p hp
      have h0 := hlo q (by simp)
      rcases List.mem_cons.1 hp with rfl | hp
      · simp; omega
      · have := (List.pairwise_cons.1 h).1 p hp
        simp; omega
theorem mem_stO : ∀ {n : Nat} {l : List (Nat × ByteArray)} {s : ByteArray}, s ∈ stO n l → ∃ p ∈ l, p.2 = s
  | _, [], _, h => by simp [stO] at h
  | n, q :: l, s, h => by
    rw [stO] at h
    split at h
    · rcases List.mem_cons.1 h with rfl | h
      · exact ⟨q, by simp, rfl⟩
      · obtain ⟨p, hp, e⟩ := mem_stO h
        exact ⟨p, List.mem_cons_of_mem _ hp, e⟩
    · simp at h

end Go.Proofs.Ytcadlcpccemkbaa
