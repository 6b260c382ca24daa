/- What the program tells of each error, where steps are few: its numbers. -/
import Derived.Test.YtogninhgibbfnaaDoorHe
namespace Go.Proofs.YtogninhgibbfnaaDoor
open Go.RowKit Go.Shelf
set_option maxRecDepth 100000

theorem Few.codes {ss : List Rw} (h : Few ss) {x : Int} {i : Info} (hx : lookI (infosOf ss) x = some i) : 1 ≤ i.codes.length ∧ i.codes.length ≤ 200 := by
  have hI : Inv (infosOf ss) := inv_aux ss [] (fun n i h => by simp at h) (fun s hs => by
    obtain ⟨n, hn, rfl⟩ := List.mem_iff_getElem.1 hs
    exact h.2.1 n _ (List.getElem?_eq_getElem hn))
  have h1 := (hI.look hx).1
  have hc : cnt (some i) ≤ 200 := by
    have hx' := hx
    unfold lookI look at hx'
    by_cases h0 : x < 0
    · simp [h0] at hx'
    · simp only [h0, if_false] at hx'
      cases hh : (infosOf ss)[x.toNat]? with
      | none => simp [hh] at hx'
      | some o =>
        simp [hh] at hx'
        rw [hx'] at hh
        exact h.2.2 _ _ hh
  unfold cnt at hc
  dsimp only at hc
  refine ⟨h1, ?_⟩
  split at hc <;> omega

theorem Few.cAt {ss : List Rw} (h : Few ss) (x : Int) : (cAt (infosOf ss) x).length ≤ 200 := by
  unfold Go.Proofs.YtogninhgibbfnaaDoor.cAt
  cases hi : lookI (infosOf ss) x with
  | none => simp
  | some i => exact (h.codes hi).2

/- has it the number? -/
def inC (cs : List Int) (c : Int) : Bool := if c = 0 then cs.isEmpty else cs.contains c

theorem codes_val {ss : List Rw} (hf : Few ss) (W : World) (x : Value) (n : Int) (d : Nat) (hd : d ≤ 100000) (he : Et W) (hx : Val W d (lookI (infosOf ss) n) x) :
    Calls Tryd.prog 13 #[x] W fun e w' => ∃ v, e = .returned v ∧ w'.ownsRow W.heap.size 37 1 v (cAt (infosOf ss) n).length (ints (cAt (infosOf ss) n)) ∧ Below W.heap.size W w' := by
  unfold cAt
  cases hi : lookI (infosOf ss) n with
  | none =>
    rw [hi] at hx
    rw [show x = .nilIface from hx]
    exact (codes_nil W).mono fun e w' h => ⟨_, h.1, World.ownsRow_nil _ _ _ _, h.2⟩
  | some i =>
    rw [hi] at hx
    obtain ⟨e, rfl, hE⟩ := hx
    exact codes_any e i d W hE hd (by have := (hf.bounds hi).1; omega) (by have := (hf.codes hi).2; omega) he

theorem code_val {ss : List Rw} (hf : Few ss) (W : World) (x : Value) (n : Int) (d : Nat) (hd : d ≤ 100000) (he : Et W) (hx : Val W d (lookI (infosOf ss) n) x) :
    Calls Tryd.prog 14 #[x] W fun e w' => e = .returned (.int .i64 ((cAt (infosOf ss) n).headD 0)) ∧ Below W.heap.size W w' := by
  unfold cAt
  cases hi : lookI (infosOf ss) n with
  | none =>
    rw [hi] at hx
    rw [show x = .nilIface from hx]
    exact (code_nil W).mono fun e w' h => ⟨h.1, by obtain ⟨_, rfl⟩ := h; exact Below.refl _ _⟩
  | some i =>
    rw [hi] at hx
    obtain ⟨e, rfl, hE⟩ := hx
    have hc := (hf.codes hi).1
    obtain ⟨c0, cs, hcs⟩ : ∃ c0 cs, i.codes = c0 :: cs := by
      cases h : i.codes with
      | nil => rw [h] at hc; simp at hc
      | cons c0 cs => exact ⟨c0, cs, rfl⟩
    have e0 : (match some i with | some i => i.codes | none => []).headD 0 = c0 := by simp [hcs]
    rw [e0]
    exact code_any e i c0 cs d W hE hd (by have := (hf.bounds hi).1; omega) hcs he

theorem has_val {ss : List Rw} (hf : Few ss) (W : World) (x : Value) (n c : Int) (d : Nat) (hd : d ≤ 100000) (hx : Val W d (lookI (infosOf ss) n) x) :
    Calls Tryd.prog 15 #[x, .int .i64 c] W fun e w' => e = .returned (.bool (inC (cAt (infosOf ss) n) c)) ∧ Below W.heap.size W w' := by
  unfold cAt
  cases hi : lookI (infosOf ss) n with
  | none =>
    rw [hi] at hx
    rw [show x = .nilIface from hx]
    have e0 : inC (match (none : Option Info) with | some i => i.codes | none => []) c = (c == 0) := by
      by_cases h : c = 0 <;> simp [inC, h]
    rw [e0]
    exact has_any c W
  | some i =>
    rw [hi] at hx
    obtain ⟨e, rfl, hE⟩ := hx
    have hc := (hf.codes hi).1
    by_cases h : c = 0
    · subst h
      have e0 : inC (match some i with | some i => i.codes | none => []) 0 = false := by
        cases h : i.codes with
        | nil => rw [h] at hc; simp at hc
        | cons c0 cs => simp [inC, h]
      rw [e0]
      exact has_zero e W
    · have e0 : inC (match some i with | some i => i.codes | none => []) c = (ansH c i).isSome := by
        cases hh : i.codes.contains c <;> simp at hh <;> simp [inC, h, ansH, hh]
      rw [e0]
      exact has_some e i c d W (by simpa using h) hE hd (by have := (hf.bounds hi).1; omega)

theorem val_nil {ss : List Rw} (hf : Few ss) (W : World) (x : Value) (n : Int) (d : Nat) (hx : Val W d (lookI (infosOf ss) n) x) : (cAt (infosOf ss) n = [] ∧ x = .nilIface) ∨ ∃ c cs t v, cAt (infosOf ss) n = c :: cs ∧ x = .iface t v := by
  unfold cAt
  cases hi : lookI (infosOf ss) n with
  | none =>
    rw [hi] at hx
    exact .inl ⟨rfl, hx⟩
  | some i =>
    rw [hi] at hx
    obtain ⟨e, rfl, hE⟩ := hx
    have hc := (hf.codes hi).1
    refine .inr ?_
    cases h : i.codes with
    | nil => rw [h] at hc; simp at hc
    | cons c0 cs => exact ⟨c0, cs, _, _, h, rfl⟩

end Go.Proofs.YtogninhgibbfnaaDoor
