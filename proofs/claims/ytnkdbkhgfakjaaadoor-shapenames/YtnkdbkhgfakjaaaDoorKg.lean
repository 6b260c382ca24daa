/- The number of some digits; texts behind a letter. -/
import Derived.Test.YtnkdbkhgfakjaaaDoorKf
namespace Go.Proofs.YtnkdbkhgfakjaaaDoor
open Go.RowKit
set_option maxRecDepth 100000
attribute [local go_sem] not_any mf_any

def Dig (l : List Nat) : Prop := ∀ x ∈ l, 48 ≤ x ∧ x ≤ 57
instance (l : List Nat) : Decidable (Dig l) := by unfold Dig; infer_instance
def v10 (l : List Nat) : Nat := l.foldl (fun a x => 10 * a + (x - 48)) 0
def numOf (l : List Nat) : Nat := if l ≠ [] ∧ l.length ≤ 3 ∧ l[0]? ≠ some 48 ∧ Dig l then v10 l else 0
theorem v10_snoc (l : List Nat) (x : Nat) : v10 (l ++ [x]) = 10 * v10 l + (x - 48) := by simp [v10]
theorem v10_le : ∀ (n : Nat) (l : List Nat), l.length ≤ n → Dig l → v10 l < 10 ^ n := by
  intro n
  induction n with
  | zero => intro l h _; have : l = [] := List.length_eq_zero_iff.1 (by omega); subst this; decide
  | succ n ih =>
    intro l h hd
    rcases List.eq_nil_or_concat l with rfl | ⟨l', x, rfl⟩
    · exact Nat.pow_pos (by omega)
    · rw [List.concat_eq_append] at *
      have := ih l' (by simp at h; omega) (fun y hy => hd y (by simp [hy]))
      have hx := hd x (by simp)
      rw [v10_snoc, Nat.pow_succ]
      omega
theorem numOf_le (l : List Nat) : numOf l < 1000 := by
  unfold numOf; split
  · rename_i h; exact v10_le 3 l h.2.1 h.2.2.2
  · omega
theorem dig_snoc {l : List Nat} {x : Nat} (h : Dig l) (hx : 48 ≤ x ∧ x ≤ 57) : Dig (l ++ [x]) := fun y hy => by
  rcases List.mem_append.1 hy with hy | hy
  · exact h y hy
  · obtain rfl : y = x := by simpa using hy
    exact hx
theorem dig_take {l : List Nat} (h : Dig l) (k : Nat) : Dig (l.take k) := fun x hx => h x (List.mem_of_mem_take hx)

set_option maxHeartbeats 1000000 in
theorem numberOf_any (s : ByteArray) (w : World) (hs : s.size ≤ 281474976710656) :
    Calls Tryd.prog 27 #[.string s] w fun e w' => e = .returned (.int .i64 (numOf (bs s) : Nat)) ∧ w' = w := by
  have hl := bs_length s
  rcases Nat.eq_zero_or_pos s.size with h0 | h0
  · have e : s = ⟨#[]⟩ := bs_inj (List.length_eq_zero_iff.1 (by rw [bs_length, h0]))
    subst e
    go_enter Tryd.func27, Tryd.ntmps27
    go_wp2
    go_ret
    exact ⟨rfl, rfl⟩
  have he : s.toList.isEmpty = false := by
    rw [Lib.toList_data]
    cases h : s.data.toList
    · have := congrArg List.length h; rw [Array.length_toList] at this; exact absurd this (by show ¬ s.size = 0; omega)
    · rfl
  by_cases h3 : 3 < s.size
  · have h3' : (3 : Int) < (s.size : Int) := by omega
    rw [numOf, if_neg (by rintro ⟨_, h, _⟩; omega)]
    go_enter Tryd.func27, Tryd.ntmps27
    go_wp2
    go_ret
    exact ⟨rfl, rfl⟩
  have h3' : ¬ (3 : Int) < (s.size : Int) := by omega
  have hz := bs_at h0
  by_cases h48 : (s[0]'h0).toNat = 48
  · rw [numOf, if_neg (by rintro ⟨_, _, h, _⟩; rw [hz, h48] at h; exact h rfl)]
    have hb : (((s[0]'h0).toNat : Int) == 48) = true := by simp [h48]
    go_enter Tryd.func27, Tryd.ntmps27
    go_wp2
    go_ret
    exact ⟨rfl, rfl⟩
  have hb : (((s[0]'h0).toNat : Int) == 48) = false := by simp; omega
  have HN : Shy (bs s ≠ [] ∧ (bs s).length ≤ 3 ∧ (bs s)[0]? ≠ some 48) := ⟨⟨fun e => by rw [e] at hl; simp at hl; omega, by omega, by rw [hz]; simpa using h48⟩⟩
  clear hz
  go_enter Tryd.func27, Tryd.ntmps27
  go_wp2
  go_loop [3, 19] (fun x i => ∃ k : Nat, k ≤ s.size ∧ i = .int .i64 k ∧ x = .int .i64 (v10 ((bs s).take k) : Nat) ∧ Dig ((bs s).take k)) (fun _ i => s.size - (intOf i).toNat)
  case atStart => exact ⟨0, Nat.zero_le _, rfl, rfl, fun x hx => by simp at hx⟩
  case round =>
    obtain ⟨k, hk, rfl, rfl, hd⟩ := hrel
    by_cases hlt : k < s.size
    · have hx := bs_at hlt
      have hv := v10_le 3 _ (by rw [List.length_take]; omega) hd
      have hts : (bs s).take (k + 1) = (bs s).take k ++ [(s[k]'hlt).toNat] := by rw [List.take_add_one, hx]; rfl
      have HS : Shy ((bs s).take (k + 1) = (bs s).take k ++ [(s[k]'hlt).toNat]) := ⟨hts⟩
      have HD := hide1 hd
      have HM : Shy ((s[k]'hlt).toNat ∈ bs s) := ⟨List.mem_of_getElem? hx⟩
      have hby := (s[k]'hlt).toNat_lt
      have HV : Shy (v10 ((bs s).take (k + 1)) = 10 * v10 ((bs s).take k) + ((s[k]'hlt).toNat - 48)) := ⟨by rw [hts, v10_snoc]⟩
      clear hx hts hd
      by_cases h1 : (s[k]'hlt).toNat < 48
      · have h1' : ((s[k]'hlt).toNat : Int) < 48 := by omega
        go_wp2
        go_ret
        rw [numOf, if_neg (fun h => by have := h.2.2.2 _ HM.out; omega)]
        exact ⟨rfl, rfl⟩
      by_cases h2 : 57 < (s[k]'hlt).toNat
      · have h1' : ¬ ((s[k]'hlt).toNat : Int) < 48 := by omega
        have h2' : (57 : Int) < ((s[k]'hlt).toNat : Int) := by omega
        go_wp2
        go_ret
        rw [numOf, if_neg (fun h => by have := h.2.2.2 _ HM.out; omega)]
        exact ⟨rfl, rfl⟩
      have h1' : ¬ ((s[k]'hlt).toNat : Int) < 48 := by omega
      have h2' : ¬ (57 : Int) < ((s[k]'hlt).toNat : Int) := by omega
      generalize v10 ((bs s).take k) = v at *
      have e1 : IntKind.i64.wrap (10 * (v : Int)) = 10 * (v : Int) := by rw [IntKind.wrap_i64]; omega
      have e2 : IntKind.u8.wrap (((s[k]'hlt).toNat : Int) - 48) = ((s[k]'hlt).toNat : Int) - 48 := by rw [IntKind.wrap_u8]; omega
      have e4 : IntKind.i64.wrap (((s[k]'hlt).toNat : Int) - 48) = ((s[k]'hlt).toNat : Int) - 48 := by rw [IntKind.wrap_i64]; omega
      have e3 : IntKind.i64.wrap (10 * (v : Int) + (((s[k]'hlt).toNat : Int) - 48)) = 10 * (v : Int) + (((s[k]'hlt).toNat : Int) - 48) := by rw [IntKind.wrap_i64]; omega
      go_wp2
      go_round
      case rel => exact ⟨k + 1, by omega, by go_num, by rw [HV.out]; congr 1; omega, by rw [HS.out]; exact dig_snoc HD.out (by omega)⟩
      case measure => simp [intOf]; omega
    · obtain rfl : k = s.size := by omega
      have hdd := hd
      rw [List.take_of_length_le (by rw [bs_length]; omega)] at hdd
      have HR : Shy (numOf (bs s) = v10 ((bs s).take s.size)) := ⟨by rw [List.take_of_length_le (by rw [bs_length]; omega), numOf, if_pos ⟨HN.out.1, HN.out.2.1, HN.out.2.2, hdd⟩]⟩
      clear hd hdd
      go_wp2
      go_ret
      rw [HR.out]
      exact ⟨rfl, rfl⟩

end Go.Proofs.YtnkdbkhgfakjaaaDoor
