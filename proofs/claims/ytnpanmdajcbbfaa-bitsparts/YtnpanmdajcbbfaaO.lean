/- BitsSpread: what is added twice is gone; what both have is spread over what just one has. -/
import Derived.Test.YtnpanmdajcbbfaaN
namespace Go.Proofs.Ytnpanmdajcbbfaa
open Go.RowKit
set_option maxRecDepth 100000
attribute [local go_sem] not_any mf_any field_words

/- a world in which all that was there in W is as it was -/
structure Bw (W : World) where
  w : World
  h : Below W.heap.size W w

theorem wp_region_quiet_bw {P : Program} {id : Nat} {Q : Exit → Act → World → Prop} {a : Act} {w : World} {l : List Oper} (hm : P.follows .mixedOrders = true) (hB : Region.lexB .any l.toArray = true)
    (h : wpQuiet P l.toArray (fun w' => ∃ p : Bw w, w' = p.w) (fun a' => ∀ w', (∃ p : Bw w, w' = p.w) → Q .normal a' w') l a) : (Code.region id l.toArray true).wp P Q a w :=
  wp_region_quiet (C := fun w' => ∃ p : Bw w, w' = p.w) hm hB ⟨⟨w.drew, (Below.refl _ _).drew⟩, rfl⟩ (by simpa using h)

theorem bw_of {P : Program} {f : FuncId} {args : Array Value} {W : World} {p : Bw W} {v : Value}
    (h : Calls P f args p.w fun e w' => e = .returned v ∧ Below p.w.heap.size p.w w') : Calls P f args p.w fun e w'' => e = .returned v ∧ ∃ p : Bw W, w'' = p.w :=
  h.mono fun _ w'' ⟨he, hb⟩ => ⟨he, ⟨w'', p.h.trans (hb.mono p.h.size)⟩, rfl⟩

theorem bw_cell {W : World} {a : Addr} {v : Value} (h : W.cell? a = some v) (p : Bw W) : p.w.cell? a = some v := (p.h.cell (block_lt_of_cell h)).trans h

/- boxes that hold bits, all of n -/
def Al (W : World) (n : Nat) (e : Nat × Option Addr × List Bool) : Prop := Vc 0 W n e.2.1 e.2.2 ∧ W.heap[e.1]? = some (.cells #[.int .i64 (n : Int), .slice e.2.1 (need n 64) (need n 64)] 26 (0, 0))
structure Als (B : World) (n : Nat) (ts : List (Nat × Option Addr × List Bool)) (W : World) : Prop where
  all : ∀ e ∈ ts, Al W n e
  bl : Below B.heap.size B W

theorem Als.next {B W W' : World} {n : Nat} {ts : List (Nat × Option Addr × List Bool)} (h : Als B n ts W) (hb : Below W.heap.size W W') : Als B n ts W' :=
  ⟨fun e he => ⟨(h.all e he).1.below hb (Nat.le_refl _), (hb.block _ (lt_heap (h.all e he).2)).trans (h.all e he).2⟩, h.bl.trans (hb.mono h.bl.size)⟩

theorem Als.put {B W : World} {n b : Nat} {a : Option Addr} {l : List Bool} {ts : List (Nat × Option Addr × List Bool)} (h : Als B n ts W) (hv : Vc b W n a l) :
    Als B n ((W.heap.size, a, l) :: ts) (W.alloc (.cells #[.int .i64 (n : Int), .slice a (need n 64) (need n 64)] 26)) := by
  have h' := h.next (below_alloc1 W (.cells #[.int .i64 (n : Int), .slice a (need n 64) (need n 64)] 26))
  refine ⟨fun e he => ?_, h'.bl⟩
  rcases List.mem_cons.1 he with rfl | he
  · exact ⟨(hv.mono (Nat.zero_le _)).alloc _, heap_alloc_new _ _⟩
  · exact h'.all e he

theorem Als.box {B W : World} {n : Nat} {ts : List (Nat × Option Addr × List Bool)} (h : Als B n ts W) {t : Nat} {a : Option Addr} {l : List Bool} (he : (t, a, l) ∈ ts) :
    W.cell? ⟨t, 0, none⟩ = some (.int .i64 (n : Int)) ∧ W.cell? ⟨t, 1, none⟩ = some (.slice a (need n 64) (need n 64)) ∧ t < W.heap.size := by
  obtain ⟨c0, c1, _, _, c4⟩ := box2 (h.all _ he).2
  exact ⟨c0, c1, c4⟩

theorem Als.vc {B W : World} {n : Nat} {ts : List (Nat × Option Addr × List Bool)} (h : Als B n ts W) {t : Nat} {a : Option Addr} {l : List Bool} (he : (t, a, l) ∈ ts) : Vc 0 W n a l := (h.all _ he).1

theorem zip_len (f : Bool → Bool → Bool) {la lb : List Bool} (h : la.length = lb.length) : (List.zipWith f la lb).length = la.length := by simp [h]

theorem xor_twice : ∀ (la lb : List Bool), la.length = lb.length → List.zipWith (fun x y => x ^^ y) (List.zipWith (fun x y => x ^^ y) la lb) lb = la
  | [], [], _ => rfl
  | a :: la, b :: lb, h => by
    simp only [List.zipWith_cons_cons]
    rw [xor_twice la lb (by simpa using h)]
    cases a <;> cases b <;> rfl
  | [], _ :: _, h => by simp at h
  | _ :: _, [], h => by simp at h

theorem and_spread : ∀ (la lb lc : List Bool), la.length = lb.length → la.length = lc.length →
    List.zipWith (fun x y => x && y) (List.zipWith (fun x y => x ^^ y) la lb) lc = List.zipWith (fun x y => x ^^ y) (List.zipWith (fun x y => x && y) la lc) (List.zipWith (fun x y => x && y) lb lc)
  | [], [], [], _, _ => rfl
  | a :: la, b :: lb, c :: lc, h, h' => by
    simp only [List.zipWith_cons_cons]
    rw [and_spread la lb lc (by simpa using h) (by simpa using h')]
    cases a <;> cases b <;> cases c <;> rfl
  | [], [], _ :: _, _, h => by simp at h
  | [], _ :: _, _, h, _ => by simp at h
  | _ :: _, [], _, h, _ => by simp at h
  | _ :: _, _ :: _, [], _, h => by simp at h

theorem odd_xor : ∀ (la lb : List Bool), la.length = lb.length → decide ((List.zipWith (fun x y => x ^^ y) la lb).count true % 2 = 1) = (decide (la.count true % 2 = 1) != decide (lb.count true % 2 = 1))
  | [], [], _ => rfl
  | a :: la, b :: lb, h => by
    have IH := odd_xor la lb (by simpa using h)
    simp only [List.zipWith_cons_cons, List.count_cons]
    revert IH
    generalize (List.zipWith (fun x y => x ^^ y) la lb).count true = p
    generalize la.count true = q
    generalize lb.count true = r
    intro IH
    have e1 : ∀ n : Nat, decide ((n + 1) % 2 = 1) = !decide (n % 2 = 1) := fun n => by
      rcases Nat.mod_two_eq_zero_or_one n with h | h
      · have : (n + 1) % 2 = 1 := by omega
        simp [h, this]
      · have : (n + 1) % 2 = 0 := by omega
        simp [h, this]
    cases a <;> cases b <;> simp [e1, IH]
  | [], _ :: _, h => by simp at h
  | _ :: _, [], h => by simp at h

end Go.Proofs.Ytnpanmdajcbbfaa
