/- Texts cut at a sign. -/
import Derived.Test.YtnkdbkhgfakjaaaDoorKe
import Derived.Lib.Strings
import Derived.Lib.Slices
import Derived.Lib.Walk
import Derived.Lib.Bytealg
import Derived.Lib.IndexLaws
namespace Go.Proofs.YtnkdbkhgfakjaaaDoor
open Go.RowKit
set_option maxRecDepth 100000
attribute [local go_sem] not_any mf_any

/- a text's bytes -/
def bs (s : ByteArray) : List Nat := s.data.toList.map (fun b => b.toNat)
theorem bs_length (s : ByteArray) : (bs s).length = s.size := by rw [bs, List.length_map]; exact Array.length_toList
theorem bs_at {s : ByteArray} {k : Nat} (h : k < s.size) : (bs s)[k]? = some (s[k]'h).toNat := by
  have h' : k < s.data.toList.length := by rw [Array.length_toList]; exact h
  rw [bs, List.getElem?_map, List.getElem?_eq_getElem h']
  rfl
theorem bs_lt {s : ByteArray} {x : Nat} (h : x ∈ bs s) : x < 256 := by
  obtain ⟨b, _, rfl⟩ := List.mem_map.1 h
  exact b.toNat_lt
theorem bs_inj {s t : ByteArray} (h : bs s = bs t) : s = t := by
  have e : s.data.toList = t.data.toList := (List.map_inj_right (fun a b h => UInt8.toNat_inj.1 h)).1 h
  cases s; cases t
  simpa using e
theorem bs_extract (s : ByteArray) (a b : Nat) : bs (s.extract a b) = ((bs s).take b).drop a := by
  rw [bs, Lib.extract_eq]
  simp [bs, List.map_take, List.map_drop, List.drop_take]
theorem bs_rest (s : ByteArray) (p : Nat) : bs (s.extract p s.size) = (bs s).drop p := by
  rw [bs_extract, List.take_of_length_le (by rw [bs_length]; omega)]
theorem bs_first (s : ByteArray) (p : Nat) : bs (s.extract 0 p) = (bs s).take p := by rw [bs_extract, List.drop_zero]
theorem ext_all (s : ByteArray) : s.extract 0 s.size = s := bs_inj (by rw [bs_first, List.take_of_length_le (by rw [bs_length]; omega)])
theorem ext_none (s : ByteArray) (k : Nat) (h : s.size ≤ k) : s.extract k s.size = ⟨#[]⟩ := bs_inj (by rw [bs_rest, List.drop_of_length_le (by rw [bs_length]; omega)]; rfl)

/- where a sign first stands -/
def pos (c : Nat) : List Nat → Nat
  | [] => 0
  | x :: l => if x = c then 0 else pos c l + 1
theorem pos_le (c : Nat) : ∀ l : List Nat, pos c l ≤ l.length
  | [] => Nat.le_refl _
  | x :: l => by
    have := pos_le c l
    unfold pos; split <;> simp <;> omega
theorem index_pos (c : UInt8) : ∀ l : List UInt8, Lib.indexByte l c = if pos c.toNat (l.map (fun b => b.toNat)) < l.length then ((pos c.toNat (l.map (fun b => b.toNat)) : Nat) : Int) else -1
  | [] => rfl
  | x :: l => by
    have ih := index_pos c l
    have hle := pos_le c.toNat (l.map (fun b => b.toNat))
    rw [List.length_map] at hle
    simp only [Lib.indexByte, List.map_cons, pos, List.length_cons]
    by_cases h : x = c
    · subst h; simp
    · have h' : ¬ x.toNat = c.toNat := fun e => h (UInt8.toNat_inj.1 e)
      rw [if_neg h', if_neg (by simpa using h), ih]
      generalize pos c.toNat (l.map (fun b => b.toNat)) = p at *
      generalize l.length = n at *
      by_cases hp : p < n
      · rw [if_pos hp, if_neg (show ¬ ((((p : Nat) : Int) == -1) = true) by simp), if_pos (show p + 1 < n + 1 by omega)]
        omega
      · rw [if_neg hp, if_neg (show ¬ p + 1 < n + 1 by omega)]
        rfl

set_option maxHeartbeats 1000000 in
theorem indexByte_any (s : ByteArray) (c : Int) (w : World) :
    Calls Tryd.prog 42 #[.string s, .int .u8 c] w fun e w' => e = .returned (.int .i64 (Lib.indexByte s.data.toList c.toNat.toUInt8)) ∧ w' = w := by
  go_enter Tryd.func42, Tryd.ntmps42
  go_wp2
  rw [run_callFunc_extern Tryd.func48 (by kernel_rfl) (by kernel_rfl) (by kernel_rfl) (e := Extern.BytealgIndexByte.indexByte) (by kernel_rfl), Lib.run_indexByteString]
  simp only [Result.andThen]
  rw [Oper.upon_value]
  go_wp2
  go_ret
  exact ⟨rfl, rfl⟩

set_option maxHeartbeats 2000000 in
theorem index_one (s : ByteArray) (c : UInt8) (w : World) :
    Calls Tryd.prog 36 #[.string s, .string ⟨#[c]⟩] w fun e w' => e = .returned (.int .i64 (Lib.indexByte s.data.toList c)) ∧ w' = w := by
  go_enter Tryd.func36, Tryd.ntmps36
  go_wp2_with (go_at_call 42; refine (indexByte_any _ _ _).mono ?_; rintro e w' ⟨rfl, rfl⟩)
  · have h : ([c] == s.toList) = true := by assumption
    go_ret
    refine ⟨?_, rfl⟩
    rw [show s.data.toList = [c] by rw [← Lib.toList_data]; exact (beq_iff_eq.1 h).symm]
    simp [Lib.indexByte]
  · go_ret
    exact ⟨rfl, rfl⟩

theorem run_upto (s : ByteArray) (p : Nat) (h2 : p ≤ s.size) (w : World) : (Instr.slice 9 (.string s) none (some (.int .i64 (p : Int))) none).run Tryd.prog w = .ok (.string (s.extract 0 p)) w := by
  have h1 := Tryd.underlying9
  have h3 : ¬ ((s.size : Int) < (p : Int)) := by omega
  go_simp
theorem run_onward (s : ByteArray) (p : Nat) (h2 : p ≤ s.size) (w : World) : (Instr.slice 9 (.string s) (some (.int .i64 (p : Int))) none none).run Tryd.prog w = .ok (.string (s.extract p s.size)) w := by
  have := Tryd.underlying9
  go_simp

/- a text cut at a sign: what is ahead, what is behind, and whether it is there -/
set_option maxHeartbeats 2000000 in
theorem cutLite_any (s : ByteArray) (c : UInt8) (w : World) (hs : s.size ≤ 281474976710656) :
    Calls Tryd.prog 31 #[.string s, .string ⟨#[c]⟩] w fun e w' => e = .returned (.tuple #[.string (s.extract 0 (pos c.toNat (bs s))), .string (s.extract (pos c.toNat (bs s) + 1) s.size), .bool (decide (pos c.toNat (bs s) < s.size))]) ∧ Below w.heap.size w w' := by
  have mx := mixed
  have kI := fun w => hide1 (index_one s c w)
  have hle := pos_le c.toNat (bs s)
  rw [bs_length] at hle
  have hix := index_pos c s.data.toList
  rw [show s.data.toList.length = s.size from Array.length_toList, show s.data.toList.map (fun b => b.toNat) = bs s from rfl] at hix
  generalize pos c.toNat (bs s) = p at *
  by_cases hp : p < s.size
  · rw [if_pos hp] at hix
    rw [hix] at kI
    rw [decide_eq_true hp]
    have hc1 := fun w => run_upto s p hle w
    have hc2 := fun w => run_onward s (p + 1) hp w
    have hwr : IntKind.i64.wrap ((p : Int) + 1) = ((p + 1 : Nat) : Int) := by rw [IntKind.wrap_i64]; omega
    obtain ⟨p1, hp1⟩ : ∃ p1, p + 1 = p1 := ⟨_, rfl⟩
    rw [hp1] at hwr hc2 ⊢
    clear hp1 hix
    go_enter Tryd.func31, Tryd.ntmps31
    go_wp2_with (go_at_call 36; refine (kI _).out.mono ?_; rintro e w' ⟨rfl, rfl⟩)
    go_quiet (fail)
    go_wp2
    go_ret3
    exact ⟨rfl, by first | exact Below.refl _ _ | exact (Below.refl _ _).drew | exact belowN (Below.refl _ _) _⟩
  · rw [if_neg hp] at hix
    rw [hix] at kI
    rw [decide_eq_false hp, show p = s.size by omega, ext_all, ext_none s _ (Nat.le_succ _)]
    clear hix
    go_enter Tryd.func31, Tryd.ntmps31
    go_wp2_with (go_at_call 36; refine (kI _).out.mono ?_; rintro e w' ⟨rfl, rfl⟩)
    go_ret3
    exact ⟨rfl, Below.refl _ _⟩

theorem cut_any (s : ByteArray) (c : UInt8) (w : World) (hs : s.size ≤ 281474976710656) :
    Calls Tryd.prog 28 #[.string s, .string ⟨#[c]⟩] w fun e w' => e = .returned (.tuple #[.string (s.extract 0 (pos c.toNat (bs s))), .string (s.extract (pos c.toNat (bs s) + 1) s.size), .bool (decide (pos c.toNat (bs s) < s.size))]) ∧ Below w.heap.size w w' := by
  have kI := fun w => hide1 (cutLite_any s c w hs)
  generalize pos c.toNat (bs s) = p at *
  generalize s.extract 0 p = x at *
  generalize s.extract (p + 1) s.size = y at *
  go_enter Tryd.func28, Tryd.ntmps28
  go_wp2_with (go_at_call 31; refine (kI _).out.mono ?_; rintro e w1 ⟨rfl, hb⟩)
  go_ret3
  exact ⟨rfl, hb⟩

end Go.Proofs.YtnkdbkhgfakjaaaDoor
