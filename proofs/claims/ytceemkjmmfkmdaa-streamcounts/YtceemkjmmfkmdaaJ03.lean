/- May a joiner be of a plan? -/
import Derived.Test.YtceemkjmmfkmdaaJ02
namespace Go.Proofs.Ytceemkjmmfkmdaa.St
open Go.RowKit
set_option maxRecDepth 100000
attribute [local go_sem] not_any

theorem wrap_i64_nat {x : Nat} (h : x ≤ 4611686018427387904) : IntKind.i64.wrap (x : Int) = (x : Int) := by
  rw [IntKind.wrap_i64]
  omega
/- is a chunk none, behind so many? -/
def badC (c : Chk) (N : Nat) : Prop := c.ct < 1 ∨ 512 < c.ct ∨ c.sk ≠ (N : Int)
instance (c : Chk) (N : Nat) : Decidable (badC c N) := inferInstanceAs (Decidable (_ ∨ _ ∨ _))
def goodGo : List Chk → Nat → Int
  | [], _ => 0
  | c :: l, N => if badC c N then 1 else if 4096 < N + c.ct.toNat then 2 else goodGo l (N + c.ct.toNat)
def goodC (l : List Chk) (each : Int) : Int := if each < 0 ∨ 6 < each then 11 else goodGo l 0
theorem drop_cons {l : List Chk} {k : Nat} {x : Chk} (h : l[k]? = some x) : l.drop k = x :: l.drop (k + 1) := by
  obtain ⟨hk, rfl⟩ := List.getElem?_eq_some_iff.1 h
  exact List.drop_eq_getElem_cons hk

set_option maxHeartbeats 4000000 in
theorem rgood_any (n c : Nat) (a : Option Addr) (l : List Chk) (each : Int) (w : World) (ha : Cl w n a l) (hn : n ≤ 4096) :
    Calls Try.prog 16 #[.slice a n c, .int .i64 each] w fun e w' => e = .returned (.int .i64 (goodC l each)) ∧ w' = w := by
  by_cases h1 : each < 0
  · have hg : goodC l each = 11 := if_pos (.inl h1)
    rw [hg]
    clear hg ha
    go_enter Try.func16, Try.ntmps16
    go_wp2
    go_ret
    exact ⟨rfl, rfl⟩
  · by_cases h2 : 6 < each
    · have hg : goodC l each = 11 := if_pos (.inr h2)
      rw [hg]
      clear hg ha
      go_enter Try.func16, Try.ntmps16
      go_wp2
      go_ret
      exact ⟨rfl, rfl⟩
    · have hg : goodC l each = goodGo l 0 := if_neg (fun h => h.elim h1 h2)
      rw [hg]
      have HA := hide1 ha
      clear hg ha
      go_enter Try.func16, Try.ntmps16
      go_wp2
      go_loopw [5, 6] (fun v5 v6 wr => ∃ k N : Nat, k ≤ n ∧ v6 = .int .i64 k ∧ v5 = .int .i64 N ∧ N ≤ 4096 ∧ goodGo l 0 = goodGo (l.drop k) N ∧ wr = w) (fun _ v6 _ => n - (intOf v6).toNat)
      case atStart => exact ⟨0, 0, Nat.zero_le _, rfl, rfl, Nat.zero_le _, rfl, rfl⟩
      case round =>
        obtain ⟨k, N, hk, rfl, rfl, hN, hG, rfl⟩ := hrel
        by_cases hlt : k < n
        · have bk : (k : Int) < (n : Int) := by omega
          have bk2 : (k : Int) < 4096 := by omega
          obtain ⟨x, hx⟩ : ∃ x, l[k]? = some x := ⟨_, List.getElem?_eq_getElem (by rw [HA.out.len]; exact hlt)⟩
          obtain ⟨ga, oa, rfl, a0, a1, a2⟩ := HA.out.at' k x hx
          rw [drop_cons hx, goodGo] at hG
          obtain ⟨ja, hja⟩ : ∃ j, j = oa + k * 3 := ⟨_, rfl⟩
          rw [← hja] at a0 a1 a2
          have eja : oa + k * 3 = ja := hja.symm
          obtain ⟨f, ct, sk⟩ := x
          clear hx hja a0
          by_cases t1 : ct < 1
          · rw [if_pos (show badC ⟨f, ct, sk⟩ N from .inl t1)] at hG
            have HG := hide1 hG
            clear hG
            go_wp2
            go_ret
            exact ⟨by rw [HG.out]; rfl, rfl⟩
          · by_cases t2 : 512 < ct
            · rw [if_pos (show badC ⟨f, ct, sk⟩ N from .inr (.inl t2))] at hG
              have HG := hide1 hG
              clear hG
              go_wp2
              go_ret
              exact ⟨by rw [HG.out]; rfl, rfl⟩
            · by_cases t3 : sk = (N : Int)
              · obtain ⟨C, rfl⟩ : ∃ C : Nat, ct = (C : Int) := ⟨ct.toNat, by omega⟩
                rw [if_neg (show ¬ badC ⟨f, (C : Int), sk⟩ N from fun h => h.elim t1 (fun h => h.elim t2 (fun h => h t3)))] at hG
                subst t3
                have q0 : ((N : Int) != (N : Int)) = false := by simp
                have e1 : IntKind.i64.wrap ((N : Int) + (C : Int)) = ((N + C : Nat) : Int) := by rw [← Int.natCast_add, wrap_i64_nat (by omega)]
                have hG2 : goodGo l 0 = if 4096 < N + C then 2 else goodGo (l.drop (k + 1)) (N + C) := hG
                obtain ⟨M, hM⟩ : ∃ M, M = N + C := ⟨_, rfl⟩
                rw [← hM] at e1 hG2
                clear hG
                by_cases t4 : 4096 < M
                · rw [if_pos t4] at hG2
                  have t5 : (4096 : Int) < (M : Int) := by omega
                  have HG := hide1 hG2
                  clear hG2 hM
                  go_wp2
                  go_ret
                  exact ⟨by rw [HG.out]; rfl, rfl⟩
                · rw [if_neg t4] at hG2
                  have t5 : ¬ (4096 : Int) < (M : Int) := by omega
                  have HG := hide1 hG2
                  have HM : M ≤ 4096 := by omega
                  clear hG2 hM
                  go_wp2
                  go_roundw
                  case rel => exact ⟨k + 1, M, by omega, by go_num, rfl, HM, HG.out, trivial⟩
                  case measure => simp [intOf]; omega
              · rw [if_pos (show badC ⟨f, ct, sk⟩ N from .inr (.inr t3))] at hG
                have q0 : (sk != (N : Int)) = true := by rw [bne_iff_ne]; exact t3
                have HG := hide1 hG
                clear hG t3
                go_wp2
                go_ret
                exact ⟨by rw [HG.out]; rfl, rfl⟩
        · obtain rfl : k = n := by omega
          have nk : ¬ (k : Int) < (k : Int) := by omega
          have hl := HA.out.len
          rw [List.drop_of_length_le (by omega)] at hG
          have HG := hide1 hG
          clear hG
          go_wp2
          go_ret
          exact ⟨by rw [HG.out]; rfl, rfl⟩
end Go.Proofs.Ytceemkjmmfkmdaa.St
