/- Text's visitor: what it writes of each error. -/
import Derived.Test.YtogninhgibbfnaaDoorC
namespace Go.Proofs.YtogninhgibbfnaaDoor
open Go.RowKit Go.Shelf
set_option maxRecDepth 100000
attribute [local go_sem] not_any mf_any

def ST (B bB bE : Nat) : Nat → Obj → Prop := fun k o => k = bB ∨ k = bE ∨ (B ≤ k ∧ isRow 5 o)

theorem flag_of {W : World} {bE : Nat} {x : Bool} (h : W.heap[bE]? = some (.cells #[.bool x] 4 (0, 0))) : W.cell? ⟨bE, 0, none⟩ = some (.bool x) ∧ W.frozen? ⟨bE, 0, none⟩ = false := by
  constructor <;> simp [World.cell?, World.frozen?, h]

/- the builder and the flag, behind what else happens -/
theorem builder_set {B bB bE : Nat} {bs : List Value} {W : World} (h : Lib.IsBuilder 70 5 B bB bs W) {x : Bool} (hf : W.heap[bE]? = some (.cells #[.bool x] 4 (0, 0))) (v : Value) : Lib.IsBuilder 70 5 B bB bs (W.setCell ⟨bE, 0, none⟩ v) := by
  have key : ∀ p, Lib.BuilderAt 70 5 B bB p bs W → Lib.BuilderAt 70 5 B bB p bs (W.setCell ⟨bE, 0, none⟩ v) := by
    rintro p ⟨h1, u, h2, h3, h4⟩
    have hne : bB ≠ bE := fun e => by rw [e, hf] at h2; cases h2
    refine ⟨h1, u, (Below.heap_setCell _ _ _ _ hne).trans h2, h3.kept (grownBy_setCell' W bE v) (.inr (fun e => ?_)), h4⟩
    obtain ⟨_, c, hc⟩ := row_of_own h3 bE e
    rw [hf] at hc
    cases hc
  rcases h with h | h
  · exact .inl (key _ h)
  · exact .inr (key _ h)

theorem flag_kept {B bB bE : Nat} {bs : List Value} {W W' : World} (h : Lib.IsBuilder 70 5 B bB bs W) {x : Bool} (hf : W.heap[bE]? = some (.cells #[.bool x] 4 (0, 0))) (hk : Kp (Sb B bB) W W') : W'.heap[bE]? = some (.cells #[.bool x] 4 (0, 0)) :=
  hk.same _ _ hf (fun hs => by
    rcases hs with rfl | ⟨_, _, _, e⟩
    · rcases h with ⟨_, _, h2, _⟩ | ⟨_, _, h2, _⟩ <;> (rw [hf] at h2; cases h2)
    · cases e)

theorem write_flag (B bB bE : Nat) (dn : List UInt8) (s : ByteArray) (x : Bool) (W : World) (h : Lib.IsBuilder 70 5 B bB (Lib.byteCells dn) W) (hf : W.heap[bE]? = some (.cells #[.bool x] 4 (0, 0))) (hlen : dn.length + (bytes s).length ≤ 140737488355328) (hB : B ≤ W.heap.size) :
    Calls Tryd.prog 40 #[.pointer (some ⟨bB, 0, none⟩), .string s] W fun e w' => (∃ v, e = .returned v) ∧ Lib.IsBuilder 70 5 B bB (Lib.byteCells (dn ++ bytes s)) w' ∧ w'.heap[bE]? = some (.cells #[.bool x] 4 (0, 0)) ∧ Kp (ST B bB bE) W w' := by
  refine (writeString_any B bB _ s W h ?_ hB).mono ?_
  · rw [Lib.byteCells_length]
    have : s.size = (bytes s).length := by simp [bytes]
    omega
  · rintro e w' ⟨rfl, h1, h2⟩
    refine ⟨⟨_, rfl⟩, .inr ?_, flag_kept h hf h2, h2.mono (fun k o _ hs => hs.elim .inl (fun h => .inr (.inr h)))⟩
    rw [Lib.byteCells_append]
    exact h1

/- what the visitor's parts answer of an error -/
structure Tells (e : E) (S : Nat → Obj → Prop) (G : World → Prop) (ps : ByteArray) (pb own : Bool) (wd : ByteArray) (fin : Bool) : Prop where
  stay : ∀ W W', G W → Kp S W W' → G W'
  place : ∀ W, G W → Calls Tryd.prog 38 #[ev e] W fun x w' => x = .returned (.tuple #[.string ps, .bool pb]) ∧ w' = W
  own : fin = false → ∀ W, G W → Calls Tryd.prog 41 #[ev e] W fun x w' => x = .returned (.bool true) ∧ w' = W
  word : fin = true → ∀ W, G W → Calls Tryd.prog 42 #[ev e] W fun x w' => x = .returned (.string wd) ∧ w' = W

def sepB (x : Bool) : List UInt8 := if x then semi else []
def plB (ps : ByteArray) (pb : Bool) : List UInt8 := if pb then bytes ps ++ colon else []
def wdB (wd : ByteArray) (fin : Bool) : List UInt8 := if fin then bytes wd else []

theorem hide' {p : Prop} (h : p) : Hid p := h

set_option maxHeartbeats 1000000 in
theorem textV_ttt (B bB bE : Nat) (e : E) (G : World → Prop) (ps wd : ByteArray) (own : Bool) (dn : List UInt8) (W : World) (hT : Tells e (ST B bB bE) G ps true own wd true) (hG : G W)
    (hb : Lib.IsBuilder 70 5 B bB (Lib.byteCells dn) W) (hf : W.heap[bE]? = some (.cells #[.bool true] 4 (0, 0))) (hB : B ≤ W.heap.size) (hlen : dn.length + (sepB true ++ plB ps true ++ wdB wd true).length ≤ 140737488355328) :
    Calls Tryd.prog 39 #[ev e, .bool true, .pointer (some ⟨bE, 0, none⟩), .pointer (some ⟨bB, 0, none⟩)] W fun x w' => x = .returned (.int .i64 1) ∧
      Lib.IsBuilder 70 5 B bB (Lib.byteCells (dn ++ (sepB true ++ plB ps true ++ wdB wd true))) w' ∧ w'.heap[bE]? = some (.cells #[.bool true] 4 (0, 0)) ∧ Kp (ST B bB bE) W w' := by
  simp [sepB, plB, wdB, semi, colon] at hlen
  have HT : Hid (Tells e (ST B bB bE) G ps true own wd true) := hT
  have HL := hide' hlen
  clear hT hlen
  obtain ⟨hc, hz⟩ := flag_of hf
  go_enter Tryd.func39, Tryd.ntmps39
  go_wp2_with fail
  refine (write_flag B bB bE (dn) ⟨#[59, 32]⟩ true _ hb hf (by have := HL.out; simp [bytes] at this ⊢; omega) hB).mono ?_
  rintro x W1 ⟨⟨v1, rfl⟩, hb1, hf1, hk1⟩
  have hG1 := HT.out.stay _ _ hG hk1
  obtain ⟨hc1, hz1⟩ := flag_of hf1
  have hk2 : Kp (ST B bB bE) W1 (W1.setCell ⟨bE, 0, none⟩ (.bool false)) := (Kp.refl _ _).setCell _ (fun o _ => .inr (.inl rfl)) _
  have hG2 := HT.out.stay _ _ hG1 hk2
  have hb2 := builder_set hb1 hf1 (.bool false)
  have hf2 := set_box hf1 (.bool false)
  go_wp2_with fail
  refine (HT.out.place _ hG2).mono ?_
  rintro x w' ⟨rfl, rfl⟩
  go_wp2_with fail
  refine (write_flag B bB bE (dn ++ bytes ⟨#[59, 32]⟩) ps false _ hb2 hf2 (by have := HL.out; simp [bytes] at this ⊢; omega) (by have := hk1.size; have := hk2.size; omega)).mono ?_
  rintro x W3 ⟨⟨v3, rfl⟩, hb3, hf3, hk3⟩
  have hG3 := HT.out.stay _ _ hG2 hk3
  obtain ⟨hc3, hz3⟩ := flag_of hf3
  go_wp2_with fail
  refine (write_flag B bB bE (dn ++ bytes ⟨#[59, 32]⟩ ++ bytes ps) ⟨#[58, 32]⟩ false _ hb3 hf3 (by have := HL.out; simp [bytes] at this ⊢; omega) (by have := hk1.size; have := hk2.size; have := hk3.size; omega)).mono ?_
  rintro x W4 ⟨⟨v4, rfl⟩, hb4, hf4, hk4⟩
  have hG4 := HT.out.stay _ _ hG3 hk4
  obtain ⟨hc4, hz4⟩ := flag_of hf4
  go_wp2_with fail
  refine (HT.out.word rfl _ hG4).mono ?_
  rintro x w' ⟨rfl, rfl⟩
  go_wp2_with fail
  refine (write_flag B bB bE (dn ++ bytes ⟨#[59, 32]⟩ ++ bytes ps ++ bytes ⟨#[58, 32]⟩) wd false _ hb4 hf4 (by have := HL.out; simp [bytes] at this ⊢; omega) (by have := hk1.size; have := hk2.size; have := hk3.size; have := hk4.size; omega)).mono ?_
  rintro x W5 ⟨⟨v5, rfl⟩, hb5, hf5, hk5⟩
  have hG5 := HT.out.stay _ _ hG4 hk5
  obtain ⟨hc5, hz5⟩ := flag_of hf5
  have hk6 : Kp (ST B bB bE) W5 (W5.setCell ⟨bE, 0, none⟩ (.bool true)) := (Kp.refl _ _).setCell _ (fun o _ => .inr (.inl rfl)) _
  have hb6 := builder_set hb5 hf5 (.bool true)
  have hf6 := set_box hf5 (.bool true)
  go_wp2
  go_ret
  exact ⟨rfl, by simpa [sepB, plB, wdB, semi, colon, bytes] using hb6, hf6, (((((hk1).trans hk2).trans hk3).trans hk4).trans hk5).trans hk6⟩

set_option maxHeartbeats 1000000 in
theorem textV_ttf (B bB bE : Nat) (e : E) (G : World → Prop) (ps wd : ByteArray) (own : Bool) (dn : List UInt8) (W : World) (hT : Tells e (ST B bB bE) G ps true own wd false) (hG : G W)
    (hb : Lib.IsBuilder 70 5 B bB (Lib.byteCells dn) W) (hf : W.heap[bE]? = some (.cells #[.bool true] 4 (0, 0))) (hB : B ≤ W.heap.size) (hlen : dn.length + (sepB true ++ plB ps true ++ wdB wd false).length ≤ 140737488355328) :
    Calls Tryd.prog 39 #[ev e, .bool false, .pointer (some ⟨bE, 0, none⟩), .pointer (some ⟨bB, 0, none⟩)] W fun x w' => x = .returned (.int .i64 0) ∧
      Lib.IsBuilder 70 5 B bB (Lib.byteCells (dn ++ (sepB true ++ plB ps true ++ wdB wd false))) w' ∧ w'.heap[bE]? = some (.cells #[.bool false] 4 (0, 0)) ∧ Kp (ST B bB bE) W w' := by
  simp [sepB, plB, wdB, semi, colon] at hlen
  have HT : Hid (Tells e (ST B bB bE) G ps true own wd false) := hT
  have HL := hide' hlen
  clear hT hlen
  obtain ⟨hc, hz⟩ := flag_of hf
  go_enter Tryd.func39, Tryd.ntmps39
  go_wp2_with fail
  refine (write_flag B bB bE (dn) ⟨#[59, 32]⟩ true _ hb hf (by have := HL.out; simp [bytes] at this ⊢; omega) hB).mono ?_
  rintro x W1 ⟨⟨v1, rfl⟩, hb1, hf1, hk1⟩
  have hG1 := HT.out.stay _ _ hG hk1
  obtain ⟨hc1, hz1⟩ := flag_of hf1
  have hk2 : Kp (ST B bB bE) W1 (W1.setCell ⟨bE, 0, none⟩ (.bool false)) := (Kp.refl _ _).setCell _ (fun o _ => .inr (.inl rfl)) _
  have hG2 := HT.out.stay _ _ hG1 hk2
  have hb2 := builder_set hb1 hf1 (.bool false)
  have hf2 := set_box hf1 (.bool false)
  go_wp2_with fail
  refine (HT.out.place _ hG2).mono ?_
  rintro x w' ⟨rfl, rfl⟩
  go_wp2_with fail
  refine (write_flag B bB bE (dn ++ bytes ⟨#[59, 32]⟩) ps false _ hb2 hf2 (by have := HL.out; simp [bytes] at this ⊢; omega) (by have := hk1.size; have := hk2.size; omega)).mono ?_
  rintro x W3 ⟨⟨v3, rfl⟩, hb3, hf3, hk3⟩
  have hG3 := HT.out.stay _ _ hG2 hk3
  obtain ⟨hc3, hz3⟩ := flag_of hf3
  go_wp2_with fail
  refine (write_flag B bB bE (dn ++ bytes ⟨#[59, 32]⟩ ++ bytes ps) ⟨#[58, 32]⟩ false _ hb3 hf3 (by have := HL.out; simp [bytes] at this ⊢; omega) (by have := hk1.size; have := hk2.size; have := hk3.size; omega)).mono ?_
  rintro x W4 ⟨⟨v4, rfl⟩, hb4, hf4, hk4⟩
  have hG4 := HT.out.stay _ _ hG3 hk4
  obtain ⟨hc4, hz4⟩ := flag_of hf4
  go_wp2_with fail
  refine (HT.out.own rfl _ hG4).mono ?_
  rintro x w' ⟨rfl, rfl⟩
  go_wp2
  go_ret
  exact ⟨rfl, by simpa [sepB, plB, wdB, semi, colon, bytes] using hb4, hf4, (((hk1).trans hk2).trans hk3).trans hk4⟩

set_option maxHeartbeats 1000000 in
theorem textV_tft (B bB bE : Nat) (e : E) (G : World → Prop) (ps wd : ByteArray) (own : Bool) (dn : List UInt8) (W : World) (hT : Tells e (ST B bB bE) G ps false own wd true) (hG : G W)
    (hb : Lib.IsBuilder 70 5 B bB (Lib.byteCells dn) W) (hf : W.heap[bE]? = some (.cells #[.bool true] 4 (0, 0))) (hB : B ≤ W.heap.size) (hlen : dn.length + (sepB true ++ plB ps false ++ wdB wd true).length ≤ 140737488355328) :
    Calls Tryd.prog 39 #[ev e, .bool true, .pointer (some ⟨bE, 0, none⟩), .pointer (some ⟨bB, 0, none⟩)] W fun x w' => x = .returned (.int .i64 1) ∧
      Lib.IsBuilder 70 5 B bB (Lib.byteCells (dn ++ (sepB true ++ plB ps false ++ wdB wd true))) w' ∧ w'.heap[bE]? = some (.cells #[.bool true] 4 (0, 0)) ∧ Kp (ST B bB bE) W w' := by
  simp [sepB, plB, wdB, semi] at hlen
  have HT : Hid (Tells e (ST B bB bE) G ps false own wd true) := hT
  have HL := hide' hlen
  clear hT hlen
  obtain ⟨hc, hz⟩ := flag_of hf
  go_enter Tryd.func39, Tryd.ntmps39
  go_wp2_with fail
  refine (write_flag B bB bE (dn) ⟨#[59, 32]⟩ true _ hb hf (by have := HL.out; simp [bytes] at this ⊢; omega) hB).mono ?_
  rintro x W1 ⟨⟨v1, rfl⟩, hb1, hf1, hk1⟩
  have hG1 := HT.out.stay _ _ hG hk1
  obtain ⟨hc1, hz1⟩ := flag_of hf1
  have hk2 : Kp (ST B bB bE) W1 (W1.setCell ⟨bE, 0, none⟩ (.bool false)) := (Kp.refl _ _).setCell _ (fun o _ => .inr (.inl rfl)) _
  have hG2 := HT.out.stay _ _ hG1 hk2
  have hb2 := builder_set hb1 hf1 (.bool false)
  have hf2 := set_box hf1 (.bool false)
  go_wp2_with fail
  refine (HT.out.place _ hG2).mono ?_
  rintro x w' ⟨rfl, rfl⟩
  go_wp2_with fail
  refine (HT.out.word rfl _ hG2).mono ?_
  rintro x w' ⟨rfl, rfl⟩
  go_wp2_with fail
  refine (write_flag B bB bE (dn ++ bytes ⟨#[59, 32]⟩) wd false _ hb2 hf2 (by have := HL.out; simp [bytes] at this ⊢; omega) (by have := hk1.size; have := hk2.size; omega)).mono ?_
  rintro x W3 ⟨⟨v3, rfl⟩, hb3, hf3, hk3⟩
  have hG3 := HT.out.stay _ _ hG2 hk3
  obtain ⟨hc3, hz3⟩ := flag_of hf3
  have hk4 : Kp (ST B bB bE) W3 (W3.setCell ⟨bE, 0, none⟩ (.bool true)) := (Kp.refl _ _).setCell _ (fun o _ => .inr (.inl rfl)) _
  have hb4 := builder_set hb3 hf3 (.bool true)
  have hf4 := set_box hf3 (.bool true)
  go_wp2
  go_ret
  exact ⟨rfl, by simpa [sepB, plB, wdB, semi, colon, bytes] using hb4, hf4, (((hk1).trans hk2).trans hk3).trans hk4⟩

set_option maxHeartbeats 1000000 in
theorem textV_tff (B bB bE : Nat) (e : E) (G : World → Prop) (ps wd : ByteArray) (own : Bool) (dn : List UInt8) (W : World) (hT : Tells e (ST B bB bE) G ps false own wd false) (hG : G W)
    (hb : Lib.IsBuilder 70 5 B bB (Lib.byteCells dn) W) (hf : W.heap[bE]? = some (.cells #[.bool true] 4 (0, 0))) (hB : B ≤ W.heap.size) (hlen : dn.length + (sepB true ++ plB ps false ++ wdB wd false).length ≤ 140737488355328) :
    Calls Tryd.prog 39 #[ev e, .bool false, .pointer (some ⟨bE, 0, none⟩), .pointer (some ⟨bB, 0, none⟩)] W fun x w' => x = .returned (.int .i64 0) ∧
      Lib.IsBuilder 70 5 B bB (Lib.byteCells (dn ++ (sepB true ++ plB ps false ++ wdB wd false))) w' ∧ w'.heap[bE]? = some (.cells #[.bool false] 4 (0, 0)) ∧ Kp (ST B bB bE) W w' := by
  simp [sepB, plB, wdB, semi] at hlen
  have HT : Hid (Tells e (ST B bB bE) G ps false own wd false) := hT
  have HL := hide' hlen
  clear hT hlen
  obtain ⟨hc, hz⟩ := flag_of hf
  go_enter Tryd.func39, Tryd.ntmps39
  go_wp2_with fail
  refine (write_flag B bB bE (dn) ⟨#[59, 32]⟩ true _ hb hf (by have := HL.out; simp [bytes] at this ⊢; omega) hB).mono ?_
  rintro x W1 ⟨⟨v1, rfl⟩, hb1, hf1, hk1⟩
  have hG1 := HT.out.stay _ _ hG hk1
  obtain ⟨hc1, hz1⟩ := flag_of hf1
  have hk2 : Kp (ST B bB bE) W1 (W1.setCell ⟨bE, 0, none⟩ (.bool false)) := (Kp.refl _ _).setCell _ (fun o _ => .inr (.inl rfl)) _
  have hG2 := HT.out.stay _ _ hG1 hk2
  have hb2 := builder_set hb1 hf1 (.bool false)
  have hf2 := set_box hf1 (.bool false)
  go_wp2_with fail
  refine (HT.out.place _ hG2).mono ?_
  rintro x w' ⟨rfl, rfl⟩
  go_wp2_with fail
  refine (HT.out.own rfl _ hG2).mono ?_
  rintro x w' ⟨rfl, rfl⟩
  go_wp2
  go_ret
  exact ⟨rfl, by simpa [sepB, plB, wdB, semi, colon, bytes] using hb2, hf2, (hk1).trans hk2⟩

set_option maxHeartbeats 1000000 in
theorem textV_ftt (B bB bE : Nat) (e : E) (G : World → Prop) (ps wd : ByteArray) (own : Bool) (dn : List UInt8) (W : World) (hT : Tells e (ST B bB bE) G ps true own wd true) (hG : G W)
    (hb : Lib.IsBuilder 70 5 B bB (Lib.byteCells dn) W) (hf : W.heap[bE]? = some (.cells #[.bool false] 4 (0, 0))) (hB : B ≤ W.heap.size) (hlen : dn.length + (sepB false ++ plB ps true ++ wdB wd true).length ≤ 140737488355328) :
    Calls Tryd.prog 39 #[ev e, .bool true, .pointer (some ⟨bE, 0, none⟩), .pointer (some ⟨bB, 0, none⟩)] W fun x w' => x = .returned (.int .i64 1) ∧
      Lib.IsBuilder 70 5 B bB (Lib.byteCells (dn ++ (sepB false ++ plB ps true ++ wdB wd true))) w' ∧ w'.heap[bE]? = some (.cells #[.bool true] 4 (0, 0)) ∧ Kp (ST B bB bE) W w' := by
  simp [sepB, plB, wdB, colon] at hlen
  have HT : Hid (Tells e (ST B bB bE) G ps true own wd true) := hT
  have HL := hide' hlen
  clear hT hlen
  obtain ⟨hc, hz⟩ := flag_of hf
  go_enter Tryd.func39, Tryd.ntmps39
  go_wp2_with fail
  refine (HT.out.place _ hG).mono ?_
  rintro x w' ⟨rfl, rfl⟩
  go_wp2_with fail
  refine (write_flag B bB bE (dn) ps false _ hb hf (by have := HL.out; simp [bytes] at this ⊢; omega) hB).mono ?_
  rintro x W1 ⟨⟨v1, rfl⟩, hb1, hf1, hk1⟩
  have hG1 := HT.out.stay _ _ hG hk1
  obtain ⟨hc1, hz1⟩ := flag_of hf1
  go_wp2_with fail
  refine (write_flag B bB bE (dn ++ bytes ps) ⟨#[58, 32]⟩ false _ hb1 hf1 (by have := HL.out; simp [bytes] at this ⊢; omega) (by have := hk1.size; omega)).mono ?_
  rintro x W2 ⟨⟨v2, rfl⟩, hb2, hf2, hk2⟩
  have hG2 := HT.out.stay _ _ hG1 hk2
  obtain ⟨hc2, hz2⟩ := flag_of hf2
  go_wp2_with fail
  refine (HT.out.word rfl _ hG2).mono ?_
  rintro x w' ⟨rfl, rfl⟩
  go_wp2_with fail
  refine (write_flag B bB bE (dn ++ bytes ps ++ bytes ⟨#[58, 32]⟩) wd false _ hb2 hf2 (by have := HL.out; simp [bytes] at this ⊢; omega) (by have := hk1.size; have := hk2.size; omega)).mono ?_
  rintro x W3 ⟨⟨v3, rfl⟩, hb3, hf3, hk3⟩
  have hG3 := HT.out.stay _ _ hG2 hk3
  obtain ⟨hc3, hz3⟩ := flag_of hf3
  have hk4 : Kp (ST B bB bE) W3 (W3.setCell ⟨bE, 0, none⟩ (.bool true)) := (Kp.refl _ _).setCell _ (fun o _ => .inr (.inl rfl)) _
  have hb4 := builder_set hb3 hf3 (.bool true)
  have hf4 := set_box hf3 (.bool true)
  go_wp2
  go_ret
  exact ⟨rfl, by simpa [sepB, plB, wdB, semi, colon, bytes] using hb4, hf4, (((hk1).trans hk2).trans hk3).trans hk4⟩

set_option maxHeartbeats 1000000 in
theorem textV_ftf (B bB bE : Nat) (e : E) (G : World → Prop) (ps wd : ByteArray) (own : Bool) (dn : List UInt8) (W : World) (hT : Tells e (ST B bB bE) G ps true own wd false) (hG : G W)
    (hb : Lib.IsBuilder 70 5 B bB (Lib.byteCells dn) W) (hf : W.heap[bE]? = some (.cells #[.bool false] 4 (0, 0))) (hB : B ≤ W.heap.size) (hlen : dn.length + (sepB false ++ plB ps true ++ wdB wd false).length ≤ 140737488355328) :
    Calls Tryd.prog 39 #[ev e, .bool false, .pointer (some ⟨bE, 0, none⟩), .pointer (some ⟨bB, 0, none⟩)] W fun x w' => x = .returned (.int .i64 0) ∧
      Lib.IsBuilder 70 5 B bB (Lib.byteCells (dn ++ (sepB false ++ plB ps true ++ wdB wd false))) w' ∧ w'.heap[bE]? = some (.cells #[.bool false] 4 (0, 0)) ∧ Kp (ST B bB bE) W w' := by
  simp [sepB, plB, wdB, colon] at hlen
  have HT : Hid (Tells e (ST B bB bE) G ps true own wd false) := hT
  have HL := hide' hlen
  clear hT hlen
  obtain ⟨hc, hz⟩ := flag_of hf
  go_enter Tryd.func39, Tryd.ntmps39
  go_wp2_with fail
  refine (HT.out.place _ hG).mono ?_
  rintro x w' ⟨rfl, rfl⟩
  go_wp2_with fail
  refine (write_flag B bB bE (dn) ps false _ hb hf (by have := HL.out; simp [bytes] at this ⊢; omega) hB).mono ?_
  rintro x W1 ⟨⟨v1, rfl⟩, hb1, hf1, hk1⟩
  have hG1 := HT.out.stay _ _ hG hk1
  obtain ⟨hc1, hz1⟩ := flag_of hf1
  go_wp2_with fail
  refine (write_flag B bB bE (dn ++ bytes ps) ⟨#[58, 32]⟩ false _ hb1 hf1 (by have := HL.out; simp [bytes] at this ⊢; omega) (by have := hk1.size; omega)).mono ?_
  rintro x W2 ⟨⟨v2, rfl⟩, hb2, hf2, hk2⟩
  have hG2 := HT.out.stay _ _ hG1 hk2
  obtain ⟨hc2, hz2⟩ := flag_of hf2
  go_wp2_with fail
  refine (HT.out.own rfl _ hG2).mono ?_
  rintro x w' ⟨rfl, rfl⟩
  go_wp2
  go_ret
  exact ⟨rfl, by simpa [sepB, plB, wdB, semi, colon, bytes] using hb2, hf2, (hk1).trans hk2⟩

set_option maxHeartbeats 1000000 in
theorem textV_fft (B bB bE : Nat) (e : E) (G : World → Prop) (ps wd : ByteArray) (own : Bool) (dn : List UInt8) (W : World) (hT : Tells e (ST B bB bE) G ps false own wd true) (hG : G W)
    (hb : Lib.IsBuilder 70 5 B bB (Lib.byteCells dn) W) (hf : W.heap[bE]? = some (.cells #[.bool false] 4 (0, 0))) (hB : B ≤ W.heap.size) (hlen : dn.length + (sepB false ++ plB ps false ++ wdB wd true).length ≤ 140737488355328) :
    Calls Tryd.prog 39 #[ev e, .bool true, .pointer (some ⟨bE, 0, none⟩), .pointer (some ⟨bB, 0, none⟩)] W fun x w' => x = .returned (.int .i64 1) ∧
      Lib.IsBuilder 70 5 B bB (Lib.byteCells (dn ++ (sepB false ++ plB ps false ++ wdB wd true))) w' ∧ w'.heap[bE]? = some (.cells #[.bool true] 4 (0, 0)) ∧ Kp (ST B bB bE) W w' := by
  simp [sepB, plB, wdB] at hlen
  have HT : Hid (Tells e (ST B bB bE) G ps false own wd true) := hT
  have HL := hide' hlen
  clear hT hlen
  obtain ⟨hc, hz⟩ := flag_of hf
  go_enter Tryd.func39, Tryd.ntmps39
  go_wp2_with fail
  refine (HT.out.place _ hG).mono ?_
  rintro x w' ⟨rfl, rfl⟩
  go_wp2_with fail
  refine (HT.out.word rfl _ hG).mono ?_
  rintro x w' ⟨rfl, rfl⟩
  go_wp2_with fail
  refine (write_flag B bB bE (dn) wd false _ hb hf (by have := HL.out; simp [bytes] at this ⊢; omega) hB).mono ?_
  rintro x W1 ⟨⟨v1, rfl⟩, hb1, hf1, hk1⟩
  have hG1 := HT.out.stay _ _ hG hk1
  obtain ⟨hc1, hz1⟩ := flag_of hf1
  have hk2 : Kp (ST B bB bE) W1 (W1.setCell ⟨bE, 0, none⟩ (.bool true)) := (Kp.refl _ _).setCell _ (fun o _ => .inr (.inl rfl)) _
  have hb2 := builder_set hb1 hf1 (.bool true)
  have hf2 := set_box hf1 (.bool true)
  go_wp2
  go_ret
  exact ⟨rfl, by simpa [sepB, plB, wdB, semi, colon, bytes] using hb2, hf2, (hk1).trans hk2⟩

set_option maxHeartbeats 1000000 in
theorem textV_fff (B bB bE : Nat) (e : E) (G : World → Prop) (ps wd : ByteArray) (own : Bool) (dn : List UInt8) (W : World) (hT : Tells e (ST B bB bE) G ps false own wd false) (hG : G W)
    (hb : Lib.IsBuilder 70 5 B bB (Lib.byteCells dn) W) (hf : W.heap[bE]? = some (.cells #[.bool false] 4 (0, 0))) (hB : B ≤ W.heap.size) (hlen : dn.length + (sepB false ++ plB ps false ++ wdB wd false).length ≤ 140737488355328) :
    Calls Tryd.prog 39 #[ev e, .bool false, .pointer (some ⟨bE, 0, none⟩), .pointer (some ⟨bB, 0, none⟩)] W fun x w' => x = .returned (.int .i64 0) ∧
      Lib.IsBuilder 70 5 B bB (Lib.byteCells (dn ++ (sepB false ++ plB ps false ++ wdB wd false))) w' ∧ w'.heap[bE]? = some (.cells #[.bool false] 4 (0, 0)) ∧ Kp (ST B bB bE) W w' := by
  simp [sepB, plB, wdB] at hlen
  have HT : Hid (Tells e (ST B bB bE) G ps false own wd false) := hT
  have HL := hide' hlen
  clear hT hlen
  obtain ⟨hc, hz⟩ := flag_of hf
  go_enter Tryd.func39, Tryd.ntmps39
  go_wp2_with fail
  refine (HT.out.place _ hG).mono ?_
  rintro x w' ⟨rfl, rfl⟩
  go_wp2_with fail
  refine (HT.out.own rfl _ hG).mono ?_
  rintro x w' ⟨rfl, rfl⟩
  go_wp2
  go_ret
  exact ⟨rfl, by simpa [sepB, plB, wdB, semi, colon, bytes] using hb, hf, Kp.refl _ _⟩

end Go.Proofs.YtogninhgibbfnaaDoor
