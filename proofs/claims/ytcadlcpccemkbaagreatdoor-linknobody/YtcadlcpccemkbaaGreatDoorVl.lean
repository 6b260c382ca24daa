/- Pure: numbered bodies by rising numbers; one put among them; those taken that follow each other. -/
import Derived.Test.YtcadlcpccemkbaaGreatDoorVm
namespace Go.Proofs.YtcadlcpccemkbaaGreatDoor

def lk : List (Nat × ByteArray) → Nat → Option ByteArray
  | [], _ => none
  | p :: l, k => if k = p.1 then some p.2 else lk l k
def Srt (l : List (Nat × ByteArray)) : Prop := l.Pairwise fun p q => p.1 < q.1
def Low (n : Nat) (l : List (Nat × ByteArray)) : Prop := ∀ p ∈ l, n ≤ p.1
def Upto (n : Nat) (l : List (Nat × ByteArray)) : Prop := ∀ p ∈ l, p.1 < n
def ins (k : Nat) (s : ByteArray) : List (Nat × ByteArray) → List (Nat × ByteArray)
  | [] => [(k, s)]
  | p :: l => if k < p.1 then (k, s) :: p :: l else p :: ins k s l
/- the bodies that follow each other from n on; the others -/
def stO (n : Nat) : List (Nat × ByteArray) → List ByteArray
  | [] => []
  | p :: l => if p.1 = n then p.2 :: stO (n + 1) l else []
def stR (n : Nat) : List (Nat × ByteArray) → List (Nat × ByteArray)
  | [] => []
  | p :: l => if p.1 = n then stR (n + 1) l else p :: l

theorem lk_absent : ∀ {l : List (Nat × ByteArray)} {k : Nat}, (∀ p ∈ l, p.1 ≠ k) → lk l k = none
  | [], _, _ => rfl
  | p :: l, k, h => by
    rw [lk, if_neg (fun e => h p (by simp) e.symm)]
    exact lk_absent fun q hq => h q (by simp [hq])
theorem lk_some : ∀ {l : List (Nat × ByteArray)} {k : Nat} {s : ByteArray}, lk l k = some s → (k, s) ∈ l
  | [], _, _, h => by cases h
  | p :: l, k, s, h => by
    rw [lk] at h
    split at h
    · rename_i e
      cases h
      rw [e]
      simp
    · exact List.mem_cons_of_mem _ (lk_some h)
theorem lk_isSome {l : List (Nat × ByteArray)} {k : Nat} : (lk l k).isSome = true ↔ ∃ p ∈ l, p.1 = k := by
  constructor
  · intro h
    obtain ⟨s, hs⟩ := Option.isSome_iff_exists.1 h
    exact ⟨_, lk_some hs, rfl⟩
  · rintro ⟨p, hp, rfl⟩
    cases h : lk l p.1 with
    | some s => rfl
    | none =>
      exfalso
      induction l with
      | nil => simp at hp
      | cons q l ih =>
        rw [lk] at h
        split at h
        · cases h
        · rename_i hne
          rcases List.mem_cons.1 hp with e | hp'
          · exact hne (by rw [e])
          · exact ih hp' h
theorem lk_none {l : List (Nat × ByteArray)} {k : Nat} (h : lk l k = none) : ∀ p ∈ l, p.1 ≠ k := fun p hp e => by
  have := lk_isSome.2 ⟨p, hp, e⟩
  rw [h] at this
  cases this
theorem lk_tail {p : Nat × ByteArray} {l : List (Nat × ByteArray)} (h : Srt (p :: l)) : upd (lk (p :: l)) p.1 none = lk l := by
  obtain ⟨h1, _⟩ := List.pairwise_cons.1 h
  funext j
  by_cases hj : j = p.1
  · rw [hj, upd_same]
    exact (lk_absent fun q hq => by have := h1 q hq; omega).symm
  · rw [upd_other _ _ hj, lk, if_neg hj]
theorem mem_ins {k : Nat} {s : ByteArray} {p : Nat × ByteArray} : ∀ {l : List (Nat × ByteArray)}, p ∈ ins k s l ↔ p = (k, s) ∨ p ∈ l
  | [] => by simp [ins]
  | q :: l => by
    rw [ins]
    split
    · simp
    · simp only [List.mem_cons, mem_ins (l := l)]
      constructor
      · rintro (h | h | h)
        · exact .inr (.inl h)
        · exact .inl h
        · exact .inr (.inr h)
      · rintro (h | h | h)
        · exact .inr (.inl h)
        · exact .inl h
        · exact .inr (.inr h)
theorem srt_ins {k : Nat} {s : ByteArray} : ∀ {l : List (Nat × ByteArray)}, Srt l → (∀ p ∈ l, p.1 ≠ k) → Srt (ins k s l)
  | [], _, _ => by simp [ins, Srt]
  | q :: l, h, hn => by
    obtain ⟨h1, h2⟩ := List.pairwise_cons.1 h
    rw [ins]
    split
    · rename_i hlt
      refine List.pairwise_cons.2 ⟨fun p hp => ?_, h⟩
      rcases List.mem_cons.1 hp with rfl | hp
      · exact hlt
      · exact Nat.lt_trans hlt (h1 p hp)
    · rename_i hge
      refine List.pairwise_cons.2 ⟨fun p hp => ?_, srt_ins h2 fun p hp => hn p (by simp [hp])⟩
      rcases mem_ins.1 hp with rfl | hp
      · have := hn q (by simp)
        simp only
        omega
      · exact h1 p hp
theorem lk_ins {k : Nat} {s : ByteArray} : ∀ {l : List (Nat × ByteArray)}, (∀ p ∈ l, p.1 ≠ k) → lk (ins k s l) = upd (lk l) k (some s)
  | [], _ => by funext j; simp [ins, lk, upd]
  | q :: l, hn => by
    funext j
    have hq := hn q (by simp)
    rw [ins]
    split
    · simp only [lk, upd]
    · have ih := congrFun (lk_ins (s := s) (l := l) fun p hp => hn p (by simp [hp])) j
      simp only [lk, upd] at ih ⊢
      rw [ih]
      by_cases hj : j = k
      · subst hj
        rw [if_neg (fun e => hq e.symm), if_pos rfl, if_pos rfl]
      · simp [hj]
theorem ins_length {k : Nat} {s : ByteArray} : ∀ {l : List (Nat × ByteArray)}, (ins k s l).length = l.length + 1
  | [] => rfl
  | q :: l => by
    rw [ins]
    split
    · simp
    · simp [ins_length (l := l)]
theorem low_ins {k n : Nat} {s : ByteArray} {l : List (Nat × ByteArray)} (h : Low n l) (hk : n ≤ k) : Low n (ins k s l) := fun p hp => by
  rcases mem_ins.1 hp with rfl | hp
  · exact hk
  · exact h p hp
theorem upto_ins {k n : Nat} {s : ByteArray} {l : List (Nat × ByteArray)} (h : Upto n l) (hk : k < n) : Upto n (ins k s l) := fun p hp => by
  rcases mem_ins.1 hp with rfl | hp
  · exact hk
  · exact h p hp
/- the first one is the one that is awaited, or it is not there -/
theorem lk_first {n : Nat} {p : Nat × ByteArray} {l : List (Nat × ByteArray)} (h : Srt (p :: l)) (hlo : Low n (p :: l)) : lk (p :: l) n = if p.1 = n then some p.2 else none := by
  obtain ⟨h1, _⟩ := List.pairwise_cons.1 h
  rw [lk]
  by_cases e : p.1 = n
  · rw [if_pos e.symm, if_pos e]
  · rw [if_neg (fun e' => e e'.symm), if_neg e]
    have := hlo p (by simp)
    exact lk_absent fun q hq => by have := h1 q hq; omega
theorem srt_tail {p : Nat × ByteArray} {l : List (Nat × ByteArray)} (h : Srt (p :: l)) : Srt l := (List.pairwise_cons.1 h).2
theorem low_tail {p : Nat × ByteArray} {l : List (Nat × ByteArray)} (h : Srt (p :: l)) : Low (p.1 + 1) l := fun q hq => (List.pairwise_cons.1 h).1 q hq
theorem stR_sub : ∀ {n : Nat} {l : List (Nat × ByteArray)} {p : Nat × ByteArray}, p ∈ stR n l → p ∈ l
  | _, [], _, h => by simp [stR] at h
  | n, q :: l, p, h => by
    rw [stR] at h
    split at h
    · exact List.mem_cons_of_mem _ (stR_sub h)
    · exact h
theorem srt_stR : ∀ {n : Nat} {l : List (Nat × ByteArray)}, Srt l → Srt (stR n l)
  | _, [], h => h
  | n, q :: l, h => by
    rw [stR]
    split
    · exact srt_stR (srt_tail h)
    · exact h
theorem stO_le : ∀ {n : Nat} {l : List (Nat × ByteArray)}, (stO n l).length ≤ l.length
  | _, [] => by simp [stO]
  | n, q :: l => by
    rw [stO]
    split
    · simp only [List.length_cons]
      have := stO_le (n := n + 1) (l := l)
      omega
    · simp
theorem stR_len : ∀ {n : Nat} {l : List (Nat × ByteArray)}, (stR n l).length + (stO n l).length = l.length
  | _, [] => rfl
  | n, q :: l => by
    rw [stO, stR]
    split
    · simp only [List.length_cons]
      have := stR_len (n := n + 1) (l := l)
      omega
    · simp
/- what is left has greater numbers than the one that is awaited then -/
theorem low_stR : ∀ {n : Nat} {l : List (Nat × ByteArray)}, Srt l → Low n l → Low (n + (stO n l).length + 1) (stR n l)
  | n, [], _, _ => by simp [stR, Low]
  | n, q :: l, h, hlo => by
    rw [stO, stR]
    split
    · rename_i e
      have h1 := low_stR (srt_tail h) (e ▸ low_tail h)
      simp only [List.length_cons]
      rw [show n + ((stO (n + 1) l).length + 1) + 1 = n + 1 + (stO (n + 1) l).length + 1 by omega]
      exact h1
    · rename_i e
      intro p hp
      have h0 := hlo q (by simp)
      rcases List.mem_cons.1 hp with rfl | hp
      · simp; omega
      · have := (List.pairwise_cons.1 h).1 p hp
        simp; omega
theorem mem_stO : ∀ {n : Nat} {l : List (Nat × ByteArray)} {s : ByteArray}, s ∈ stO n l → ∃ p ∈ l, p.2 = s
  | _, [], _, h => by simp [stO] at h
  | n, q :: l, s, h => by
    rw [stO] at h
    split at h
    · rcases List.mem_cons.1 h with rfl | h
      · exact ⟨q, by simp, rfl⟩
      · obtain ⟨p, hp, e⟩ := mem_stO h
        exact ⟨p, List.mem_cons_of_mem _ hp, e⟩
    · simp at h

end Go.Proofs.YtcadlcpccemkbaaGreatDoor
