/- AddAll, SubAll, and the walk of RingLists where it says little. -/
import Derived.Test.YtnabkhhoocgkgaaK
namespace Go.Proofs.Ytnabkhhoocgkgaa
open Go.RowKit
set_option maxRecDepth 100000
attribute [local go_sem] not_any mf_any

theorem told_at0 {f : Nat → Nat} {m j : Nat} (h : j < m) : at0 (told f 0 m m) j = f j := by
  rw [at0_eq (told_get h), if_pos h]

theorem nl_told {w : World} {g m : Nat} {f : Nat → Nat} (h : w.heap[g]? = some (wrow (told f 0 m m))) : Nl w m (some ⟨g, 0, none⟩) (told f 0 m m) := by
  have := nl_row h
  rwa [told_length] at this

def sums (l : Int) (xs ys : List Nat) (m : Nat) : List Nat := told (fun j => fit l (at0 xs j + at0 ys j)) 0 m m
def diffs (l : Int) (xs ys : List Nat) (m : Nat) : List Nat := told (fun j => fit l (at0 xs j + (18446744073709551616 - at0 ys j))) 0 m m
def scaled (l : Int) (k : Nat) (xs : List Nat) (m : Nat) : List Nat := told (fun j => fit l (k * at0 xs j)) 0 m m

theorem addall_any (l : Int) (w : World) (m ca cb : Nat) (a b : Option Addr) (xs ys : List Nat) (ha : Nl w m a xs) (hb : Nl w m b ys) (hm : m ≤ 4194304) :
    Calls Try.prog 27 #[.int .i64 l, .slice a m ca, .slice b m cb] w fun e w' => ∃ a', e = .returned (.tuple #[.slice a' m m, .int .i64 0]) ∧ Nl w' m a' (sums l xs ys m) ∧ Below w.heap.size w w' := by
  have hP := fun w h1 h2 => hide1 (paired_any 12 (.inl rfl) l (fun x y => fit l (x + y)) w m ca cb a b xs ys h1 h2 hm (fun k W _ => add_any l _ _ W))
  have HA := hide1 ha
  have HB := hide1 hb
  clear ha hb
  go_enter Try.func27, Try.ntmps27
  go_wp2_with (first | (go_at_call 40; refine (hP _ HA.out HB.out).out.mono ?_; rintro e w' ⟨rfl, hr, hBe⟩; have HR := hide1 hr; have HE := hide1 hBe; clear hr hBe))
  go_ret2
  exact ⟨_, rfl, nl_told HR.out, HE.out⟩

theorem suball_any (l : Int) (w : World) (m ca cb : Nat) (a b : Option Addr) (xs ys : List Nat) (ha : Nl w m a xs) (hb : Nl w m b ys) (hsb : Small ys) (hm : m ≤ 4194304) :
    Calls Try.prog 28 #[.int .i64 l, .slice a m ca, .slice b m cb] w fun e w' => ∃ a', e = .returned (.tuple #[.slice a' m m, .int .i64 0]) ∧ Nl w' m a' (diffs l xs ys m) ∧ Below w.heap.size w w' := by
  have hP := fun w h1 h2 => hide1 (paired_any 13 (.inr rfl) l (fun x y => fit l (x + (18446744073709551616 - y))) w m ca cb a b xs ys h1 h2 hm (fun k W _ => sub_any l _ _ W (hsb.at0 k)))
  have HA := hide1 ha
  have HB := hide1 hb
  clear ha hb
  go_enter Try.func28, Try.ntmps28
  go_wp2_with (first | (go_at_call 40; refine (hP _ HA.out HB.out).out.mono ?_; rintro e w' ⟨rfl, hr, hBe⟩; have HR := hide1 hr; have HE := hide1 hBe; clear hr hBe))
  go_ret2
  exact ⟨_, rfl, nl_told HR.out, HE.out⟩

theorem all_no (F : FuncId) (hF : F = 27 ∨ F = 28) (l : Int) (w : World) (m n ca cb : Nat) (a b : Option Addr) (h : m ≠ n) :
    Calls Try.prog F #[.int .i64 l, .slice a m ca, .slice b n cb] w fun e w' => e = .returned (.tuple #[.slice none 0 0, .int .i64 11]) ∧ w' = w := by
  have hP := fun V w => hide1 (paired_no V l w m n ca cb a b h)
  rcases hF with rfl | rfl
  · go_enter Try.func27, Try.ntmps27
    go_wp2_with (first | (go_at_call 40; refine (hP _ _).out.mono ?_; rintro e w' ⟨rfl, rfl⟩))
    go_ret2
    exact ⟨rfl, rfl⟩
  · go_enter Try.func28, Try.ntmps28
    go_wp2_with (first | (go_at_call 40; refine (hP _ _).out.mono ?_; rintro e w' ⟨rfl, rfl⟩))
    go_ret2
    exact ⟨rfl, rfl⟩

theorem lists_else (l : Int) (w : World) (m n ca cb : Nat) (k : Int) (a b : Option Addr) (h : 60 < m ∨ 60 < n ∨ ¬ (1 ≤ l ∧ l ≤ 64)) :
    Calls Try.prog 5 #[.int .i64 l, .slice a m ca, .slice b n cb, .int .u64 k] w fun e w' => e = .returned (.bool true) ∧ w' = w := by
  have h3 := fun w => hide1 (awake_any w)
  have h2 := fun w => hide1 (good_any l w)
  by_cases hm : 60 < m
  · have hm' : (60 : Int) < m := by omega
    clear h
    go_enter Try.func5, Try.ntmps5
    go_wp2_with (first | (go_at_call 17; refine (h3 _).out.mono ?_; rintro e w' ⟨rfl, rfl⟩))
    go_ret
    exact ⟨rfl, rfl⟩
  · have hm' : ¬ (60 : Int) < m := by omega
    by_cases hn : 60 < n
    · have hn' : (60 : Int) < n := by omega
      clear h
      go_enter Try.func5, Try.ntmps5
      go_wp2_with (first | (go_at_call 17; refine (h3 _).out.mono ?_; rintro e w' ⟨rfl, rfl⟩))
      go_ret
      exact ⟨rfl, rfl⟩
    · have hn' : ¬ (60 : Int) < n := by omega
      rw [decide_eq_false (by omega)] at h2
      clear h
      go_enter Try.func5, Try.ntmps5
      go_wp2_with (first | (go_at_call 10; refine (h2 _).out.mono ?_; rintro e w' ⟨rfl, rfl⟩) | (go_at_call 17; refine (h3 _).out.mono ?_; rintro e w' ⟨rfl, rfl⟩))
      go_ret
      exact ⟨rfl, rfl⟩

end Go.Proofs.Ytnabkhhoocgkgaa
