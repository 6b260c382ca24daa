/- How great what an error tells can be, where steps are few; and what the program tells of each. -/
import Derived.Test.YtogninhgibbfnaaDoorTe
namespace Go.Proofs.YtogninhgibbfnaaDoor
open Go.RowKit Go.Shelf
set_option maxRecDepth 100000

theorem errWord_size (c : Int) : (errWord c).size ≤ 20 := by
  unfold errWord
  repeat' split
  all_goals decide

/- the bounds -/
def Bd (n : Nat) (i : Info) : Prop := 1 ≤ i.codes.length ∧ i.size ≤ i.codes.length * (2 * n) ∧ i.text.length ≤ i.codes.length * (300 * n) ∧ i.path.length ≤ n

theorem Bd.mono {m n : Nat} {i : Info} (h : Bd m i) (hmn : m ≤ n) : Bd n i :=
  ⟨h.1, Nat.le_trans h.2.1 (Nat.mul_le_mul_left _ (by omega)), Nat.le_trans h.2.2.1 (Nat.mul_le_mul_left _ (by omega)), by have := h.2.2.2; omega⟩

theorem bd_root (n : Nat) (c : Int) (s : ByteArray) (hs : s.size ≤ 200) : Bd (n + 1) (rootI c s) := by
  have := errWord_size c
  refine ⟨by simp [rootI], by simp [rootI]; omega, ?_, by simp [rootI]⟩
  simp only [rootI, List.length_append, bytes_size, colon, List.length_cons, List.length_nil]
  omega

theorem bd_errno (n : Nat) (c : Int) : Bd (n + 1) (errnoI c) := by
  have := errWord_size c
  refine ⟨by simp [errnoI], by simp [errnoI]; omega, ?_, by simp [errnoI]⟩
  simp only [errnoI, bytes_size, List.length_cons, List.length_nil]
  omega

theorem bd_wrap (n : Nat) (i : Info) (s : ByteArray) (hs : s.size ≤ 200) (h : Bd n i) : Bd (n + 1) (wrapI s i) := by
  obtain ⟨h1, h2, h3, h4⟩ := h
  have e1 : i.codes.length * (2 * (n + 1)) = i.codes.length * (2 * n) + i.codes.length * 2 := by rw [← Nat.mul_add]; congr 1
  have e2 : i.codes.length * (300 * (n + 1)) = i.codes.length * (300 * n) + i.codes.length * 300 := by rw [← Nat.mul_add]; congr 1
  refine ⟨h1, ?_, ?_, ?_⟩
  · show i.size + 1 ≤ i.codes.length * (2 * (n + 1))
    omega
  · show (bytes s ++ colon ++ i.text).length ≤ i.codes.length * (300 * (n + 1))
    simp only [List.length_append, bytes_size, colon, List.length_cons, List.length_nil]
    omega
  · show (s :: i.path).length ≤ n + 1
    simp
    omega

theorem bd_pair (n : Nat) (i j : Info) (h : Bd n i) (g : Bd n j) : Bd (n + 1) (pairI i j) := by
  obtain ⟨h1, h2, h3, h4⟩ := h
  obtain ⟨g1, g2, g3, g4⟩ := g
  have e1 : (i.codes ++ j.codes).length * (2 * (n + 1)) = i.codes.length * (2 * n) + j.codes.length * (2 * n) + (i.codes ++ j.codes).length * 2 := by
    rw [List.length_append, ← Nat.add_mul, ← Nat.mul_add]; congr 1
  have e2 : (i.codes ++ j.codes).length * (300 * (n + 1)) = i.codes.length * (300 * n) + j.codes.length * (300 * n) + (i.codes ++ j.codes).length * 300 := by
    rw [List.length_append, ← Nat.add_mul, ← Nat.mul_add]; congr 1
  have e3 : (i.codes ++ j.codes).length = i.codes.length + j.codes.length := List.length_append
  refine ⟨?_, ?_, ?_, ?_⟩
  · show 1 ≤ (i.codes ++ j.codes).length
    omega
  · show i.size + j.size + 1 ≤ (i.codes ++ j.codes).length * (2 * (n + 1))
    omega
  · show (i.text ++ semi ++ j.text).length ≤ (i.codes ++ j.codes).length * (300 * (n + 1))
    have e4 : (i.text ++ semi ++ j.text).length = i.text.length + 2 + j.text.length := by simp [semi]; omega
    omega
  · exact Nat.zero_le _

def Inv (is : List (Option Info)) : Prop := ∀ (n : Nat) i, is[n]? = some (some i) → Bd (n + 1) i

theorem Inv.look {is : List (Option Info)} (h : Inv is) {x : Int} {i : Info} (hx : lookI is x = some i) : Bd is.length i := by
  unfold lookI Go.Proofs.YtogninhgibbfnaaDoor.look at hx
  by_cases h0 : x < 0
  · simp [h0] at hx
  · simp only [h0, if_false] at hx
    cases hh : is[x.toNat]? with
    | none => simp [hh] at hx
    | some o =>
      simp [hh] at hx
      rw [hx] at hh
      exact (h _ _ hh).mono (List.getElem?_eq_some_iff.1 hh).1

theorem Inv.snoc {is : List (Option Info)} (h : Inv is) (s : Rw) (hs : s.wh.size ≤ 200) : Inv (is ++ [infoOf is s]) := by
  intro n i hn
  by_cases hl : n < is.length
  · rw [List.getElem?_append_left hl] at hn
    exact h n i hn
  · have hn' : n = is.length := by
      have := (List.getElem?_eq_some_iff.1 hn).1
      simp at this
      omega
    subst hn'
    simp at hn
    unfold infoOf at hn
    split at hn
    · split at hn
      · cases hn
      · cases hn
        exact bd_root _ _ _ hs
    · split at hn
      · split at hn
        · cases hn
        · cases hn
          exact bd_errno _ _
      · split at hn
        · split at hn
          · cases hn
          · next i' hi =>
            cases hn
            exact bd_wrap _ _ _ hs (h.look hi)
        · split at hn
          · split at hn
            · exact (h.look hn).mono (by omega)
            · exact (h.look hn).mono (by omega)
            · next i' j' hi hj =>
              cases hn
              exact bd_pair _ _ _ (h.look hi) (h.look hj)
          · cases hn

theorem inv_aux (ss : List Rw) (is : List (Option Info)) (h : Inv is) (hs : ∀ s ∈ ss, s.wh.size ≤ 200) : Inv (ss.foldl (fun l s => l ++ [infoOf l s]) is) := by
  induction ss generalizing is with
  | nil => exact h
  | cons s ss ih => exact ih _ (h.snoc s (hs s (by simp))) (fun t ht => hs t (by simp [ht]))

theorem Few.bounds {ss : List Rw} (h : Few ss) {x : Int} {i : Info} (hx : lookI (infosOf ss) x = some i) : i.size ≤ 10000 ∧ i.text.length ≤ 2000000 ∧ i.path.length ≤ 24 := by
  have hI : Inv (infosOf ss) := inv_aux ss [] (fun n i h => by simp at h) (fun s hs => by
    obtain ⟨n, hn, rfl⟩ := List.mem_iff_getElem.1 hs
    exact h.2.1 n _ (List.getElem?_eq_getElem hn))
  have hl : (infosOf ss).length = ss.length := by rw [← (good_of ss).1, nodesOf_length]
  obtain ⟨h1, h2, h3, h4⟩ := hI.look hx
  rw [hl] at h2 h3 h4
  have hc : cnt (some i) ≤ 200 := by
    have hx' := hx
    unfold lookI look at hx'
    by_cases h0 : x < 0
    · simp [h0] at hx'
    · simp only [h0, if_false] at hx'
      cases hh : (infosOf ss)[x.toNat]? with
      | none => simp [hh] at hx'
      | some o =>
        simp [hh] at hx'
        rw [hx'] at hh
        exact h.2.2 _ _ hh
  have hc2 : i.codes.length ≤ 200 := by
    unfold cnt at hc
    dsimp only at hc
    split at hc <;> omega
  have h24 := h.1
  have m1 : i.codes.length * (2 * ss.length) ≤ 200 * (2 * 24) := Nat.mul_le_mul hc2 (by omega)
  have m2 : i.codes.length * (300 * ss.length) ≤ 200 * (300 * 24) := Nat.mul_le_mul hc2 (by omega)
  omega

theorem at_val {ss : List Rw} (hf : Few ss) (W : World) (x : Value) (n : Int) (d : Nat) (hd : d ≤ 100000) (hx : Val W d (lookI (infosOf ss) n) x) :
    Calls Tryd.prog 16 #[x] W fun e w' => e = .returned (.tuple #[.string ((oAt (infosOf ss) n).getD ⟨#[]⟩), .bool (oAt (infosOf ss) n).isSome]) ∧ Below W.heap.size W w' := by
  unfold oAt
  cases hi : lookI (infosOf ss) n with
  | none =>
    rw [hi] at hx
    rw [show x = .nilIface from hx]
    exact at_nil W
  | some i =>
    rw [hi] at hx
    obtain ⟨e, rfl, hE⟩ := hx
    exact at_any e i d W hE hd (by have := (hf.bounds hi).1; omega)

theorem text_val {ss : List Rw} (hf : Few ss) (W : World) (x : Value) (n : Int) (d : Nat) (hd : d ≤ 100000) (hx : Val W d (lookI (infosOf ss) n) x) :
    Calls Tryd.prog 18 #[x] W fun e w' => e = .returned (.string ⟨(tAt (infosOf ss) n).toArray⟩) ∧ Below W.heap.size W w' := by
  unfold tAt
  cases hi : lookI (infosOf ss) n with
  | none =>
    rw [hi] at hx
    rw [show x = .nilIface from hx]
    exact text_nil W
  | some i =>
    rw [hi] at hx
    obtain ⟨e, rfl, hE⟩ := hx
    exact text_any e i d W hE hd (by have := (hf.bounds hi).1; omega) (by have := (hf.bounds hi).2.1; omega)

theorem path_val {ss : List Rw} (hf : Few ss) (W : World) (x : Value) (n : Int) (d : Nat) (hd : d ≤ 100000) (hx : Val W d (lookI (infosOf ss) n) x) :
    Calls Tryd.prog 21 #[x] W fun e w' => ∃ v, e = .returned v ∧ w'.ownsRow W.heap.size 9 1 v (pAt (infosOf ss) n).length (strs (pAt (infosOf ss) n)) ∧ Below W.heap.size W w' := by
  unfold pAt
  cases hi : lookI (infosOf ss) n with
  | none =>
    rw [hi] at hx
    rw [show x = .nilIface from hx]
    exact (path_nil W).mono fun e w' h => ⟨_, h.1, World.ownsRow_nil _ _ _ _, h.2⟩
  | some i =>
    rw [hi] at hx
    obtain ⟨e, rfl, hE⟩ := hx
    exact path_any e i d W hE hd (by have := (hf.bounds hi).2.2; omega)

end Go.Proofs.YtogninhgibbfnaaDoor
