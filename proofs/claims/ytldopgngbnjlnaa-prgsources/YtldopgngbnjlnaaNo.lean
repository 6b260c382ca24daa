/- No source: Next, Below, At; the walk of PrgNobody. -/
import Derived.Test.YtldopgngbnjlnaaCa
namespace Go.Proofs.Ytldopgngbnjlnaa
open Go.RowKit
set_option maxRecDepth 100000
attribute [local go_sem] not_any

/- a source in memory: whether it was made, its seed, its lane, how many words were told -/
def srcV (m : Bool) (kl : List Nat) (x t : Nat) : List Value := .bool m :: (u8s kl ++ [.int .u32 (x : Int), .int .i64 (t : Int)])
def srow (m : Bool) (kl : List Nat) (x t : Nat) : Obj := .cells (srcV m kl x t).toArray 65 (0, 0)

/- no source, or one that no call made -/
def No (w : World) (a : Option Addr) : Prop := a = none ∨ ∃ g, a = some ⟨g, 0, none⟩ ∧ w.cell? ⟨g, 0, none⟩ = some (.bool false)

theorem isNone_no (a : Option Addr) (w : World) (h : No w a) : Calls Try.prog 36 #[.pointer a] w fun e w' => e = .returned (.bool true) ∧ w' = w := by
  rcases h with rfl | ⟨g, rfl, h⟩
  · go_enter Try.func36, Try.ntmps36
    go_wp2
    go_ret
    exact ⟨rfl, rfl⟩
  · go_enter Try.func36, Try.ntmps36
    go_wp2
    go_ret
    exact ⟨rfl, rfl⟩

theorem isNone_yes (g : Nat) (w : World) (h : w.cell? ⟨g, 0, none⟩ = some (.bool true)) : Calls Try.prog 36 #[.pointer (some ⟨g, 0, none⟩)] w fun e w' => e = .returned (.bool false) ∧ w' = w := by
  go_enter Try.func36, Try.ntmps36
  go_wp2
  go_ret
  exact ⟨rfl, rfl⟩

theorem next_no (a : Option Addr) (w : World) (h : No w a) : Calls Try.prog 22 #[.pointer a] w fun e w' => e = .returned (.tuple #[.int .u64 0, .int .i64 3]) ∧ w' = w := by
  have k := hide1 (isNone_no a w h)
  clear h
  go_enter Try.func22, Try.ntmps22
  go_wp2_with (go_at_call 36; refine k.out.mono ?_; rintro e w' ⟨rfl, rfl⟩)
  go_ret2
  exact ⟨rfl, rfl⟩

theorem below_no (a : Option Addr) (n : Nat) (w : World) (h : No w a) : Calls Try.prog 23 #[.pointer a, .int .u64 (n : Int)] w fun e w' => e = .returned (.tuple #[.int .u64 0, .int .i64 3]) ∧ w' = w := by
  have k := hide1 (isNone_no a w h)
  clear h
  go_enter Try.func23, Try.ntmps23
  go_wp2_with (go_at_call 36; refine k.out.mono ?_; rintro e w' ⟨rfl, rfl⟩)
  go_ret2
  exact ⟨rfl, rfl⟩

theorem at_no (a : Option Addr) (w : World) (h : No w a) : Calls Try.prog 25 #[.pointer a] w fun e w' => e = .returned (.int .i64 0) ∧ w' = w := by
  have k := hide1 (isNone_no a w h)
  clear h
  go_enter Try.func25, Try.ntmps25
  go_wp2_with (go_at_call 36; refine k.out.mono ?_; rintro e w' ⟨rfl, rfl⟩)
  go_ret
  exact ⟨rfl, rfl⟩

set_option maxHeartbeats 2000000 in
theorem nobody_all (W : World) (n : Nat) (_hn : n < 18446744073709551616) : Calls Try.prog 8 #[.int .u64 (n : Int)] W fun e w' => e = .returned (.bool true) ∧ Below W.heap.size W w' := by
  go_enter Try.func8, Try.ntmps8
  go_wp2
  generalize hX : World.alloc (World.alloc W _) _ = X
  have x0 : X.heap[W.heap.size]? = some (srow false (List.replicate 32 0) 0 0) := by rw [← hX]; exact heap_alloc2_old _ _ _
  have x1 : X.heap[W.heap.size + 1]? = some (.cells #[.pointer none, .pointer (some ⟨W.heap.size, 0, none⟩)] 50 (0, 0)) := by rw [← hX]; exact heap_alloc2_new _ _ _
  have xb : Below W.heap.size W X := by rw [← hX]; exact ((Below.refl _ _).alloc (Nat.le_refl _) _).alloc (by simp) _
  have c0 : X.cell? ⟨W.heap.size, 0, none⟩ = some (.bool false) := by rw [cell_of_row X _ 0 _ _ _ x0]; rfl
  have HP : Shy (∀ k : Nat, k < 2 → ∃ a, X.cell? ⟨W.heap.size + 1, k, none⟩ = some (.pointer a) ∧ No X a) := ⟨fun k hk => by
    rw [cell_of_row X _ k _ _ _ x1]
    match k, hk with
    | 0, _ => exact ⟨none, rfl, .inl rfl⟩
    | 1, _ => exact ⟨_, rfl, .inr ⟨_, rfl, c0⟩⟩⟩
  have XB := hide1 xb
  clear hX x0 x1 c0 xb
  go_loopw [13] (fun v wr => ∃ k : Nat, k ≤ 2 ∧ v = .int .i64 k ∧ wr = X) (fun v _ => 2 - (intOf v).toNat)
  case atStart => exact ⟨0, Nat.zero_le _, rfl, rfl⟩
  case round =>
    obtain ⟨k, hk, rfl, hwr⟩ := hrel
    cases hwr
    by_cases hlt : k < 2
    · obtain ⟨a, hc, hno⟩ := HP.out k hlt
      have hki : (k : Int) < 2 := by omega
      have k1 := hide1 (next_no a X hno)
      have k2 := hide1 (below_no a n X hno)
      have k3 := hide1 (at_no a X hno)
      clear hno
      go_wp2_with (first | (go_at_call 22; refine k1.out.mono ?_; rintro e w' ⟨rfl, rfl⟩) | (go_at_call 23; refine k2.out.mono ?_; rintro e w' ⟨rfl, rfl⟩) | (go_at_call 25; refine k3.out.mono ?_; rintro e w' ⟨rfl, rfl⟩))
      go_roundw
      case rel => exact ⟨k + 1, by omega, by go_num, trivial⟩
      case measure => simp [intOf]; omega
    · have : k = 2 := by omega
      subst this
      go_wp2_with (go_at_call 9; refine (awake_any _).mono ?_; rintro e w' ⟨rfl, rfl⟩)
      go_ret
      exact ⟨rfl, XB.out⟩
end Go.Proofs.Ytldopgngbnjlnaa
