/- Lists, place by place: AddAll, SubAll. -/
import Derived.Test.YtnabkhhoocgkgaaJ
import Derived.Deep.RegionWith
namespace Go.Proofs.Ytnabkhhoocgkgaa
open Go.RowKit
set_option maxRecDepth 100000
attribute [local go_sem] not_any mf_any

theorem paired_no (V : FuncId) (l : Int) (w : World) (m n ca cb : Nat) (a b : Option Addr) (h : m ≠ n) :
    Calls Try.prog 40 #[.int .i64 l, .slice a m ca, .slice b n cb, .func (.func V) #[] #[]] w fun e w' => e = .returned (.tuple #[.slice none 0 0, .int .i64 11]) ∧ w' = w := by
  have h' : ((m : Int) != (n : Int)) = true := by rw [bne_iff_ne]; omega
  go_enter Try.func40, Try.ntmps40
  go_wp2
  go_ret2
  exact ⟨rfl, rfl⟩

set_option maxHeartbeats 2000000 in
theorem paired_any (V : FuncId) (hV : V = 12 ∨ V = 13) (l : Int) (f : Nat → Nat → Nat) (w : World) (m ca cb : Nat) (a b : Option Addr) (xs ys : List Nat) (ha : Nl w m a xs) (hb : Nl w m b ys) (hm : m ≤ 4194304)
    (hcall : ∀ k W, k < m → Calls Try.prog V #[.int .i64 l, .int .u64 (at0 xs k : Nat), .int .u64 (at0 ys k : Nat)] W fun e w' => e = .returned (.int .u64 (f (at0 xs k) (at0 ys k) : Nat)) ∧ w' = W) :
    Calls Try.prog 40 #[.int .i64 l, .slice a m ca, .slice b m cb, .func (.func V) #[] #[]] w fun e w' => e = .returned (.tuple #[.slice (some ⟨w.heap.size, 0, none⟩) m m, .int .i64 0]) ∧ w'.heap[w.heap.size]? = some (wrow (told (fun j => f (at0 xs j) (at0 ys j)) 0 m m)) ∧ Below w.heap.size w w' := by
  have HA := hide1 ha
  have HB := hide1 hb
  have HC := hide1 hcall
  clear ha hb hcall
  have hmk := make_words m hm
  have h' : ((m : Int) != (m : Int)) = false := by simp
  have hen : ∀ args w, (callFunc V args).run Try.prog w = .ok (.enter V args) w := by
    rcases hV with rfl | rfl
    all_goals (intro args w; kernel_rfl)
  go_enter Try.func40, Try.ntmps40
  go_wp2
  clear hmk
  go_loopw [22] (fun i wr => ∃ k : Nat, k ≤ m ∧ i = .int .i64 k ∧ wr.heap[w.heap.size]? = some (wrow (told (fun j => f (at0 xs j) (at0 ys j)) 0 m k)) ∧ Below w.heap.size w wr) (fun i _ => m - (intOf i).toNat)
  case atStart =>
    refine ⟨0, Nat.zero_le _, rfl, ?_, (Below.refl _ _).alloc (Nat.le_refl _) _⟩
    rw [told_zero]
    exact heap_alloc_new _ _
  case round =>
    obtain ⟨k, hk, rfl, hr, hB⟩ := hrel
    by_cases hlt : k < m
    · obtain ⟨ga, oa, rfl, hca⟩ := (HA.out.below hB (Nat.le_refl _)).val hlt
      obtain ⟨gb, ob, rfl, hcb⟩ := (HB.out.below hB (Nat.le_refl _)).val hlt
      have hf := frozen_of_row wr w.heap.size k _ _ hr
      have hc2 := row_cell hr (told_get hlt)
      have hM := fun W => hide1 (HC.out k W hlt)
      have HR := hide1 hr
      have HBe := hide1 hB
      have HT := hide1 (told_succ (fun j => f (at0 xs j) (at0 ys j)) 0 (m := m) (k := k))
      obtain ⟨t, ht⟩ : ∃ t, t = f (at0 xs k) (at0 ys k) := ⟨_, rfl⟩
      rw [← ht] at hM HT
      obtain ⟨x, hx⟩ : ∃ x, x = at0 xs k := ⟨_, rfl⟩
      obtain ⟨y, hy⟩ : ∃ y, y = at0 ys k := ⟨_, rfl⟩
      rw [← hx] at hca hM
      rw [← hy] at hcb hM
      clear hr hB ht hx hy
      go_wp2
      rcases hV with rfl | rfl
      all_goals
        go_region_with (first | ((first | go_at_call 12 | go_at_call 13); refine (hM _).out.mono ?_; rintro e w' ⟨rfl, rfl⟩))
        all_goals
          go_wp2
          go_roundw
          case rel =>
            refine ⟨k + 1, by omega, by go_num, ?_, ?_⟩
            · rw [HT.out]
              exact wset HR.out
            · exact HBe.out.drew.setCell (Nat.le_refl _) _
          case measure => simp [intOf]; omega
    · have : k = m := by omega
      subst this
      go_wp2
      go_ret2
      exact ⟨rfl, hr, hB⟩

end Go.Proofs.Ytnabkhhoocgkgaa
