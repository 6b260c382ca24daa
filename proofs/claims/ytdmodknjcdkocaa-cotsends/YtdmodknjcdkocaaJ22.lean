/- A row's bytes: the program's, and the document's. The chapter's example; BaseotRows. -/
import Derived.Test.YtdmodknjcdkocaaJ12
import Derived.Test.YtdmodknjcdkocaaJ21
namespace Go.Proofs.Ytdmodknjcdkocaa
open Go.RowKit Pg
set_option maxRecDepth 100000
attribute [local go_sem] not_any

def big (a b : Nat) : Nat := a + 18446744073709551616 * b
def byP (a b i : Nat) : Nat := big a b / 2 ^ (8 * i) % 256
def bysP (a b : Nat) : Nat → List Nat
  | 0 => []
  | k + 1 => bysP a b k ++ [byP a b k]
theorem bysP_length (a b : Nat) : ∀ k, (bysP a b k).length = k
  | 0 => rfl
  | k + 1 => by rw [bysP, List.length_append, bysP_length]; rfl
theorem bysP_lt (a b : Nat) : ∀ k, Lt 256 (bysP a b k)
  | 0 => fun x h => by simp [bysP] at h
  | k + 1 => fun x h => by
    rw [bysP, List.mem_append] at h
    rcases h with h | h
    · exact bysP_lt a b k x h
    · rw [List.mem_singleton.1 h, byP]; exact Nat.mod_lt _ (by omega)

theorem by_lo {a b : Nat} (ha : a < 18446744073709551616) : ∀ {i : Nat}, i < 8 → a / 2 ^ (8 * i) % 256 = byP a b i
  | 0, _ => by have := ha; unfold byP big; omega
  | 1, _ => by have := ha; unfold byP big; omega
  | 2, _ => by have := ha; unfold byP big; omega
  | 3, _ => by have := ha; unfold byP big; omega
  | 4, _ => by have := ha; unfold byP big; omega
  | 5, _ => by have := ha; unfold byP big; omega
  | 6, _ => by have := ha; unfold byP big; omega
  | 7, _ => by have := ha; unfold byP big; omega
  | i + 8, h => by omega
theorem by_hi {a b : Nat} (ha : a < 18446744073709551616) (i : Nat) : b / 2 ^ (8 * i) % 256 = byP a b (8 + i) := by
  unfold byP big
  rw [show 8 * (8 + i) = 64 + 8 * i by omega, Nat.pow_add, ← Nat.div_div_eq_div_mul, show (a + 18446744073709551616 * b) / 2 ^ 64 = b by omega]

theorem big_bit {a b k : Nat} (ha : a < 18446744073709551616) (h : k < 128) : bt a b (k : Int) = (big a b).testBit k := by
  rw [big, show 18446744073709551616 = 2 ^ 64 from rfl, Nat.add_comm, Nat.testBit_two_pow_mul_add _ ha]
  by_cases h1 : k < 64
  · rw [bt_lo h1, if_pos h1]
  · obtain ⟨m, rfl⟩ : ∃ m, k = 64 + m := ⟨k - 64, by omega⟩
    rw [bt_hi (by omega), if_neg h1, Nat.add_sub_cancel_left]

/- the document's: a byte bit by bit, the highest first -/
def upB (x i j : Nat) : Nat := x / 2 ^ (8 * i + j) % 2 ^ (8 - j)
theorem upB_top (x i : Nat) : upB x i 8 = 0 := by rw [upB]; exact Nat.mod_one _
theorem upB_all (a b i : Nat) : upB (big a b) i 0 = byP a b i := rfl
theorem upB_lt (x i j : Nat) (h : 1 ≤ j) : upB x i j < 128 := by
  have h1 := Nat.mod_lt (x / 2 ^ (8 * i + j)) (Nat.two_pow_pos (8 - j))
  have h2 : 2 ^ (8 - j) ≤ 2 ^ 7 := Nat.pow_le_pow_right (by omega) (by omega)
  rw [upB]
  omega
theorem upB_step (x i j : Nat) (h : j < 8) : upB x i j = 2 * upB x i (j + 1) + (if x.testBit (8 * i + j) then 1 else 0) := by
  rw [upB, upB, show 8 - j = (8 - (j + 1)) + 1 by omega, Nat.pow_succ, Nat.mul_comm _ 2, Nat.mod_mul, show 8 * i + (j + 1) = (8 * i + j) + 1 by omega, Nat.pow_succ, ← Nat.div_div_eq_div_mul, Nat.testBit_eq_decide_div_mod_eq]
  generalize x / 2 ^ (8 * i + j) = q
  generalize q / 2 % 2 ^ (8 - (j + 1)) = z
  have : q % 2 = 0 ∨ q % 2 = 1 := by omega
  rcases this with h | h <;> simp [h] <;> omega

theorem shr_byte (a k : Nat) : IntKind.u8.wrap ((a : Int) / 2 ^ k) = ((a / 2 ^ k % 256 : Nat) : Int) := by
  have e : (a : Int) / 2 ^ k = ((a / 2 ^ k : Nat) : Int) := by rw [Int.natCast_ediv, Int.natCast_pow]; rfl
  rw [e, IntKind.wrap_u8]
  omega

theorem u8s_append (l m : List Nat) : u8s (l ++ m) = u8s l ++ u8s m := by simp [u8s]

end Go.Proofs.Ytdmodknjcdkocaa

namespace Go.Proofs.Ytdmodknjcdkocaa
open Go.RowKit Pg
set_option maxRecDepth 100000
attribute [local go_sem] not_any

theorem mixed : Try.prog.follows .mixedOrders = true := by kernel_rfl
/- two may come up -/
theorem ready2_f {P : Program} {ops : Array Oper} {Q : Exit → Act → World → Prop} {md : Region.Mode} {S : World → Prop} {F : List Nat} (i j : Nat) {o o' : Oper} {fuel : Nat} {listed : Array Bool} {a : Act} {w : World} (hr : Region.ready md ops listed = [i, j]) (ho : ops[i]? = some o) (ho' : ops[j]? = some o')
    (h : ∀ K : Act → World → Prop, Shut (∀ a' w', (i ∉ F → S w → S w') → wpAnyF P md ops Q S F fuel (listed.setIfInBounds i true) a' w' → K a' w') → if Region.wanted o (yielded ops a.tmps) = true then Oper.wp P o a w K Q else K (a.put o.dst undef) w)
    (h' : ∀ K : Act → World → Prop, Shut (∀ a' w', (j ∉ F → S w → S w') → wpAnyF P md ops Q S F fuel (listed.setIfInBounds j true) a' w' → K a' w') → if Region.wanted o' (yielded ops a.tmps) = true then Oper.wp P o' a w K Q else K (a.put o'.dst undef) w) :
    wpAnyF P md ops Q S F (fuel + 1) listed a w := by
  refine ⟨fun h0 => (by rw [hr] at h0; cases h0), ?_⟩
  intro k hk
  rw [hr] at hk
  rcases List.mem_cons.1 hk with e | hk
  · rw [e]
    exact wpOp_step ho (fun K hK => h K (fun a w hS hW => hK a w ⟨hS, hW⟩))
  · have e : k = j := by simpa using hk
    rw [e]
    exact wpOp_step ho' (fun K hK => h' K (fun a w hS hW => hK a w ⟨hS, hW⟩))

theorem skip_p {P : Program} {ops : Array Oper} {Q : Exit → Act → World → Prop} {md : Region.Mode} {S : World → Prop} {F : List Nat} (i d : Nat) {oi : Oper} {fuel : Nat} {listed : Array Bool} {tmps : Array Value} {ds : List Deferred} {w : World} (hi : ops[i]? = some oi) (hd : oi.dst = some d)
    (hs : Region.noSelect ops = true) (hf : Region.free md ops listed i = true) (hr : (Region.ready md ops listed).contains i = true)
    (hQ : ∀ c a w, Q (.panic c) (a.put oi.dst undef) w → Q (.panic c) a w) (hw : Region.wanted oi (yielded ops tmps) = false)
    (h : wpAnyF P md ops Q S F fuel (listed.setIfInBounds i true) ⟨tmps.setIfInBounds d undef, ds⟩ w) : wpAnyF P md ops Q S F (fuel + 1) listed ⟨tmps, ds⟩ w :=
  front (R := fun _ => True) (J := Clear md ops i oi) hi (Region.noSelect_spec hs) hQ
    (fun L j hL hri hrj hne => ⟨(hL.next hri hrj hne).1, (hL.next hri hrj hne).2, fun _ _ _ _ => trivial⟩)
    fuel listed _ w (Region.free_spec hi hf) (by simpa using hr) (Or.inr ⟨hw, rfl⟩) trivial (by rw [hd]; exact h)

/- nothing was held: from here on something is -/
theorem hold_f {P : Program} {ops : Array Oper} {Q : Exit → Act → World → Prop} {md : Region.Mode} {S : World → Prop} {F G : List Nat} : ∀ (fuel : Nat) (listed : Array Bool) (a : Act) (w : World), wpAnyF P md ops Q S F fuel listed a w → wpAnyF P md ops Q (fun _ => True) G fuel listed a w
  | 0, _, _, _, h => h
  | fuel + 1, _, _, _, h => ⟨h.1, fun i hi => wpOp_mono (fun a' w' h' => ⟨fun _ _ => trivial, hold_f fuel _ a' w' h'.2⟩) (h.2 i hi)⟩

/- a world in which all that was there in W is as it was -/
structure Bw (W : World) where
  w : World
  h : Below W.heap.size W w
theorem wp_region_quiet_bw {P : Program} {id : Nat} {Q : Exit → Act → World → Prop} {a : Act} {w : World} {l : List Oper} (hm : P.follows .mixedOrders = true) (hB : Region.lexB .any l.toArray = true)
    (h : wpQuiet P l.toArray (fun w' => ∃ p : Bw w, w' = p.w) (fun a' => ∀ w', (∃ p : Bw w, w' = p.w) → Q .normal a' w') l a) : (Code.region id l.toArray true).wp P Q a w :=
  wp_region_quiet (C := fun w' => ∃ p : Bw w, w' = p.w) hm hB ⟨⟨w.drew, (Below.refl _ _).drew⟩, rfl⟩ (by simpa using h)
theorem bw_of {P : Program} {f : FuncId} {args : Array Value} {W : World} {p : Bw W} {v : Value}
    (h : Calls P f args p.w fun e w' => e = .returned v ∧ Below p.w.heap.size p.w w') : Calls P f args p.w fun e w'' => e = .returned v ∧ ∃ p : Bw W, w'' = p.w :=
  h.mono fun _ w'' ⟨he, hb⟩ => ⟨he, ⟨w'', p.h.trans (hb.mono p.h.size)⟩, rfl⟩
theorem bw_cell {W : World} {a : Addr} {v : Value} (h : W.cell? a = some v) (p : Bw W) : p.w.cell? a = some v := (p.h.cell (block_lt_of_cell h)).trans h

theorem ex_by : txt (bysP 258 0 16) = ⟨#[2, 1, 0, 0, 0, 0, 0, 0, 0, 0, 0, 0, 0, 0, 0, 0]⟩ := by decide +kernel
theorem ex_tz : txt (zeros 14) = ⟨#[0, 0, 0, 0, 0, 0, 0, 0, 0, 0, 0, 0, 0, 0]⟩ := by decide +kernel
end Go.Proofs.Ytdmodknjcdkocaa
