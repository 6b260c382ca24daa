/- Lists held against each other. The document's own answers: words and bytes of truths, and how many are true. The document's own words of truths. The document's own bytes of truths. -/
import Derived.Test.YtdahnbojnleboaaJ28
import Derived.Test.YtdahnbojnleboaaJ27
import Derived.Deep.DeepMust
namespace Go.Proofs.Ytdahnbojnleboaa.T
open Go.RowKit
set_option maxRecDepth 100000
attribute [local go_sem] not_any mf_any

set_option maxHeartbeats 2000000 in
theorem same_any (w : World) (n m c c' : Nat) (a b : Option Addr) (xs ys : List Bool) (ha : Bl w n a xs) (hb : Bl w m b ys) (hn : n ≤ 4194304) (hm : m ≤ 4194304) :
    Calls Try.prog 13 #[.slice a n c, .slice b m c'] w fun e w' => e = .returned (.bool (decide (xs = ys))) ∧ ∃ q, w' = w.drewN q := by
  by_cases hnm : n = m
  · subst hnm
    have HA := hide1 ha
    have HB := hide1 hb
    clear ha hb
    have h' : ((n : Int) != (n : Int)) = false := by simp
    go_enter Try.func13, Try.ntmps13
    go_wp2
    go_loopw [5] (fun i wr => ∃ k q : Nat, k ≤ n ∧ i = .int .i64 k ∧ xs.take k = ys.take k ∧ wr = w.drewN q) (fun i _ => n - (intOf i).toNat)
    case atStart => exact ⟨0, 0, Nat.zero_le _, rfl, by simp, rfl⟩
    case round =>
      obtain ⟨k, q, hk, rfl, hE, rfl⟩ := hrel
      by_cases hlt : k < n
      · obtain ⟨x, hx⟩ : ∃ x, xs[k]? = some x := ⟨_, List.getElem?_eq_getElem (by rw [HA.out.len]; exact hlt)⟩
        obtain ⟨y, hy⟩ : ∃ y, ys[k]? = some y := ⟨_, List.getElem?_eq_getElem (by rw [HB.out.len]; exact hlt)⟩
        obtain ⟨ga, oa, rfl, hca⟩ := HA.out.at' k x hx
        obtain ⟨gb, ob, rfl, hcb⟩ := HB.out.at' k y hy
        have hca' : (w.drewN q).cell? ⟨ga, oa + k, none⟩ = some (.bool x) := hca
        have hcb' : (w.drewN q).cell? ⟨gb, ob + k, none⟩ = some (.bool y) := hcb
        have HE := hide1 hE
        have HX := hide1 hx
        have HY := hide1 hy
        clear hE hx hy
        by_cases hxy : x = y
        · subst hxy
          have h2 : (x != x) = false := by simp
          go_wp2
          go_quiet (fail)
          go_wp2
          exact ⟨⟨k + 1, q + nq, by omega, by go_num, take_succ_eq HE.out HX.out HY.out, rfl⟩, by simp [intOf]; omega⟩
        · have HN : Hid (xs ≠ ys) := fun e => by
            have h1 := HX.out
            rw [e, HY.out] at h1
            exact hxy (Option.some.inj h1).symm
          cases x with
          | false =>
            cases y with
            | false => exact absurd rfl hxy
            | true =>
              clear hxy
              go_wp2
              go_quiet (fail)
              go_wp2
              go_ret
              exact ⟨by simp [HN.out], q + nq, World.drewN_drewN _ _ _⟩
          | true =>
            cases y with
            | true => exact absurd rfl hxy
            | false =>
              clear hxy
              go_wp2
              go_quiet (fail)
              go_wp2
              go_ret
              exact ⟨by simp [HN.out], q + nq, World.drewN_drewN _ _ _⟩
      · have : k = n := by omega
        subst this
        go_wp2
        go_ret
        refine ⟨?_, q, rfl⟩
        rw [List.take_of_length_le (by rw [HA.out.len]; omega), List.take_of_length_le (by rw [HB.out.len]; omega)] at hE
        simp [hE]
  · have h' : ((n : Int) != (m : Int)) = true := by simp; omega
    have : ¬ xs = ys := fun e => hnm (by rw [← ha.len, ← hb.len, e])
    have HN := hide1 this
    clear ha hb this
    go_enter Try.func13, Try.ntmps13
    go_wp2
    go_ret
    exact ⟨by simp [HN.out], 0, rfl⟩

end Go.Proofs.Ytdahnbojnleboaa.T

namespace Go.Proofs.Ytdahnbojnleboaa.T
open Go.RowKit
set_option maxRecDepth 100000
attribute [local go_sem] not_any mf_any

theorem take_snoc {l : List Bool} {k : Nat} {b : Bool} (h : l[k]? = some b) : l.take (k + 1) = l.take k ++ [b] := by
  rw [List.take_add_one, h]
  rfl

theorem chunks_snoc_false {s : Nat} (hs : 0 < s) (A : List Bool) : chunks s (A ++ [false]) = if A.length % s = 0 then chunks s A ++ [0] else chunks s A := by
  have hg : ∀ i, (A ++ [false]).getD i false = A.getD i false := by
    intro i
    simp only [List.getD_eq_getElem?_getD, List.getElem?_append]
    by_cases h : i < A.length
    · simp [h]
    · rw [if_neg h, List.getElem?_eq_none (show A.length ≤ i by omega)]
      match h' : i - A.length with
      | 0 => rfl
      | j + 1 => rfl
  symm
  split
  · rename_i h
    apply chunks_ext
    · rw [List.length_append, chunks_length, List.length_append, List.length_singleton, List.length_singleton]
      unfold need
      obtain ⟨q, hq⟩ : ∃ q, A.length = s * q := ⟨A.length / s, by have := Nat.div_add_mod A.length s; omega⟩
      rw [hq, show s * q + 1 + s - 1 = s * (q + 1) by rw [Nat.mul_add]; omega, Nat.mul_div_cancel_left _ hs, show s * q + s - 1 = s * q + (s - 1) by omega, Nat.mul_add_div hs, Nat.div_eq_of_lt (show s - 1 < s by omega)]
    · intro k x hx
      rw [List.getElem?_append] at hx
      split at hx
      · obtain ⟨h1, rfl⟩ := chunks_get' hx
        refine ⟨chunk_lt _ _ _, fun j hj => ?_⟩
        rw [chunk_testBit, hg]
        simp [hj]
      · rename_i hk
        rw [chunks_length] at hk hx
        have hx0 : x = 0 := by
          match h' : k - need A.length s, hx with
          | 0, hx => simpa [h'] using hx.symm
          | j + 1, hx => simp at hx
        subst hx0
        refine ⟨Nat.two_pow_pos s, fun j hj => ?_⟩
        rw [Nat.zero_testBit, hg, List.getD_eq_getElem?_getD, List.getElem?_eq_none]
        · rfl
        · have h1 : A.length ≤ s * need A.length s := by
            unfold need
            have := Nat.div_add_mod (A.length + s - 1) s
            have := Nat.mod_lt (A.length + s - 1) hs
            omega
          have h2 : s * need A.length s ≤ s * k := Nat.mul_le_mul_left _ (by omega)
          omega
  · rename_i h
    apply chunks_ext
    · rw [chunks_length, List.length_append, List.length_singleton]
      unfold need
      have h0 := Nat.div_add_mod A.length s
      have h1 := Nat.mod_lt A.length hs
      rw [show A.length + s - 1 = s * (A.length / s) + (A.length % s + s - 1) by omega, show A.length + 1 + s - 1 = s * (A.length / s) + (A.length % s + s) by omega, Nat.mul_add_div hs, Nat.mul_add_div hs]
      congr 1
      rw [show A.length % s + s - 1 = s * 1 + (A.length % s - 1) by omega, show A.length % s + s = s * 1 + A.length % s by omega, Nat.mul_add_div hs, Nat.mul_add_div hs, Nat.div_eq_of_lt (by omega), Nat.div_eq_of_lt h1]
    · intro k x hx
      obtain ⟨h1, rfl⟩ := chunks_get' hx
      refine ⟨chunk_lt _ _ _, fun j hj => ?_⟩
      rw [chunk_testBit, hg]
      simp [hj]

theorem chunk_last_lt {s : Nat} (A : List Bool) : chunk s (A ++ [false]) (A.length / s) < 2 ^ (A.length % s) := by
  have h0 := Nat.div_add_mod A.length s
  apply Nat.lt_pow_two_of_testBit
  intro j hj
  rw [chunk_testBit, List.getD_eq_getElem?_getD, List.getElem?_append]
  split
  · omega
  · match h' : s * (A.length / s) + j - A.length with
    | 0 => simp
    | i + 1 => simp

theorem chunks_snoc_true {s : Nat} (hs : 0 < s) (A : List Bool) : chunks s (A ++ [true]) = (chunks s (A ++ [false])).set (A.length / s) (chunk s (A ++ [false]) (A.length / s) + 2 ^ (A.length % s)) := by
  have e : A ++ [true] = (A ++ [false]).set A.length true := by
    rw [List.set_append]
    simp
  rw [e, chunks_set_true hs _ _ (by simp), Nat.or_comm, nat_join (A.length % s) _ _ (Nat.mod_self _) (chunk_last_lt A), Nat.add_comm]

theorem need_snoc64 (k : Nat) : need (k + 1) 64 = if k % 64 = 0 then need k 64 + 1 else need k 64 := by
  rw [need64, need64]
  split <;> omega
theorem need_snoc8 (k : Nat) : need (k + 1) 8 = if k % 8 = 0 then need k 8 + 1 else need k 8 := by
  rw [need8, need8]
  split <;> omega

end Go.Proofs.Ytdahnbojnleboaa.T

namespace Go.Proofs.Ytdahnbojnleboaa.T
open Go.RowKit
set_option maxRecDepth 100000
attribute [local go_sem] not_any mf_any

theorem info55 : (Try.prog.info? 24).map (fun i => (i.zero, i.size, i.bytes)) = some (some (.int .u64 0), 1, 8) := by kernel_rfl

theorem row_form {w : World} {base : Nat} {e : TypeId} {size n : Nat} {v : Value} {xs : List Value} (h : w.ownsRow base e size v n xs) : ∃ a c, v = .slice a n c := by
  rcases h.2 with ⟨h1, h2⟩ | ⟨g, cap, cur, h1, _⟩
  · exact ⟨none, 0, by rw [h1, h2]⟩
  · exact ⟨_, _, h1⟩

theorem row_some {w : World} {base : Nat} {e : TypeId} {size n : Nat} {v : Value} {xs : List Value} (h : w.ownsRow base e size v n xs) (hn : 0 < n) : ∃ g c, v = .slice (some ⟨g, 0, none⟩) n c ∧ base ≤ g ∧ g < w.heap.size := by
  rcases h.2 with ⟨h1, h2⟩ | ⟨g, cap, cur, h1, h2, h3, _⟩
  · omega
  · exact ⟨g, cap, h1, h2, lt_heap h3⟩

theorem own_nl {w : World} {base n : Nat} {a : Option Addr} {c : Nat} {ws : List Nat} (h : w.ownsRow base 24 1 (.slice a n c) n (u64s ws)) (hl : ws.length = n) : Nl w n a ws :=
  ⟨hl, fun j x hj => by
    have hjn : j < n := by rw [← hl]; exact (List.getElem?_eq_some_iff.1 hj).1
    obtain ⟨g, c', hv, _⟩ := row_some h (by omega)
    cases hv
    refine ⟨g, 0, rfl, ?_⟩
    rw [Nat.zero_add, h.cellAt j (by omega)]
    simp [u64s, hj]⟩

theorem u64s_snoc (ws : List Nat) : u64s ws ++ [.int .u64 0] = u64s (ws ++ [0]) := by simp [u64s]
theorem u64s_set (ws : List Nat) (j x : Nat) : (u64s ws).set j (.int .u64 (x : Int)) = u64s (ws.set j x) := by simp [u64s]

end Go.Proofs.Ytdahnbojnleboaa.T

namespace Go.Proofs.Ytdahnbojnleboaa.T
open Go.RowKit
set_option maxRecDepth 100000
attribute [local go_sem] not_any mf_any

theorem info5' : (Try.prog.info? 5).map (fun i => (i.zero, i.size, i.bytes)) = some (some (.int .u8 0), 1, 1) := by kernel_rfl
theorem u8s_snoc (ws : List Nat) : u8s ws ++ [.int .u8 0] = u8s (ws ++ [0]) := by simp [u8s]
theorem u8s_set (ws : List Nat) (j x : Nat) : (u8s ws).set j (.int .u8 (x : Int)) = u8s (ws.set j x) := by simp [u8s]
theorem wrap_pow8 {j : Nat} (h : j < 8) : IntKind.u8.wrap (2 ^ j) = ((2 ^ j : Nat) : Int) := by
  rw [IntKind.wrap_u8]
  have : 2 ^ j < 2 ^ 8 := Nat.pow_lt_pow_right (by omega) h
  have e : ((2 : Int) ^ j) = ((2 ^ j : Nat) : Int) := by simp
  rw [e]
  obtain ⟨p, hp⟩ : ∃ p, p = 2 ^ j := ⟨_, rfl⟩
  rw [← hp] at this ⊢
  omega

end Go.Proofs.Ytdahnbojnleboaa.T
