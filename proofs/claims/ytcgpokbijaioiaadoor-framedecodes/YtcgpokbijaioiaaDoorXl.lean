/- The document's numbers of a frame. -/
import Derived.Test.YtcgpokbijaioiaaDoorXi
import Derived.Test.YtcgpokbijaioiaaDoorXf
import Derived.Test.YtcgpokbijaioiaaDoorXj
import Derived.Test.YtcgpokbijaioiaaDoorRv
namespace Go.Proofs.YtcgpokbijaioiaaDoor
open Go.RowKit
set_option maxRecDepth 100000
attribute [local go_sem] not_any mf_any

theorem run_cut (s : ByteArray) (p q : Nat) (h1 : p ≤ q) (h2 : q ≤ s.size) (w : World) : (Instr.slice 9 (.string s) (some (.int .i64 (p : Int))) (some (.int .i64 (q : Int))) none).run Tryd.prog w = .ok (.string (s.extract p q)) w := by
  have := Tryd.underlying9
  go_simp
def nl (s : ByteArray) (j : Nat) : List Nat := (List.range j).map (fun i => hdN s (1 + 4 * i))
theorem nl_length (s : ByteArray) (j : Nat) : (nl s j).length = j := by simp [nl]
theorem nl_step (s : ByteArray) (j : Nat) : nl s (j + 1) = nl s j ++ [hdN s (1 + 4 * j)] := by simp [nl, List.range_succ]
theorem nl_four (s : ByteArray) : nl s 4 = [hdN s 1, hdN s 5, hdN s 9, hdN s 13] := rfl
theorem cut_val (s : ByteArray) (p : Nat) : val (nums (s.extract p (p + 4))) = hdN s p := by
  rw [nums_extract, List.drop_take, Nat.add_sub_cancel_left]
  rfl
theorem info22 : (Tryd.prog.info? 22).map (fun i => (i.zero, i.size, i.bytes)) = some (some (.int .u32 0), 1, 4) := by kernel_rfl

set_option maxHeartbeats 2000000 in
theorem numbers_any (s : ByteArray) (w : World) (h17 : 17 ≤ s.size) (hs : s.size ≤ 66000) :
    Calls Tryd.prog 33 #[.string s] w fun e w' => ∃ v, e = .returned v ∧ w'.ownsRow w.heap.size 22 1 v 4 (u32s (nl s 4)) ∧ Below w.heap.size w w' := by
  obtain ⟨i0, hi, hz0, hz1, hz2⟩ := info_parts info22
  have H17 : Shy (17 ≤ s.size) := ⟨h17⟩
  have HS : Shy (s.size ≤ 66000) := ⟨hs⟩
  clear h17 hs
  go_enter Tryd.func33, Tryd.ntmps33
  go_wp2
  go_loopw [3, 4] (fun lv iv wr => ∃ j : Nat, j ≤ 4 ∧ iv = .int .i64 j ∧ wr.ownsRow w.heap.size 22 1 lv j (u32s (nl s j)) ∧ Below w.heap.size w wr) (fun _ iv _ => 4 - (intOf iv).toNat)
  case atStart => exact ⟨0, Nat.zero_le _, rfl, World.ownsRow_nil _ _ _ _, Below.refl _ _⟩
  case round =>
    obtain ⟨j, hj, rfl, hrow, hB⟩ := hrel
    obtain ⟨la, lc, rfl⟩ := row_form hrow
    by_cases hlt : j < 4
    · obtain ⟨pa, hpa⟩ : ∃ p, p = 1 + 4 * j := ⟨_, rfl⟩
      obtain ⟨pb, hpb⟩ : ∃ p, p = 5 + 4 * j := ⟨_, rfl⟩
      obtain ⟨m, hm⟩ : ∃ p, p = 4 * j := ⟨_, rfl⟩
      have em : 4 * (j : Int) = (m : Int) := by omega
      have ea : 1 + (m : Int) = (pa : Int) := by omega
      have eb : 5 + (m : Int) = (pb : Int) := by omega
      have hml : (m : Int) ≤ 16 := by omega
      have hcut := run_cut s pa pb (by omega) (by have := H17.out; omega)
      have hpab : pb = pa + 4 := by omega
      have hv : val (nums (s.extract pa pb)) = hdN s pa := by rw [hpab]; exact cut_val s pa
      have kV := fun w => hide1 (value_any (s.extract pa pb) w (by rw [size_nums, nums_extract, List.length_drop, List.length_take]; omega))
      rw [hv] at kV
      have hx := hdN_lt s pa
      have HN : Shy (nl s (j + 1) = nl s j ++ [hdN s pa]) := ⟨by rw [hpa]; exact nl_step s j⟩
      generalize hdN s pa = x at *
      generalize s.extract pa pb = cut at *
      have e22 : IntKind.u32.wrap (x : Int) = (x : Int) := by rw [IntKind.wrap_u32]; omega
      have e22' : (x : Int) % 4294967296 = (x : Int) := by omega
      have HW := hide1 (And.intro hrow hB)
      clear hpa hpb hm hpab hv hx hrow hB
      go_wp2_with (first
        | (go_at_call 49; refine (kV _).out.mono ?_; rintro e w1 ⟨rfl, hw1⟩; cases hw1)
        | (at_builtin; go_must (refine wpList_append_own _ rfl _ _ 54 rfl w.heap.size 22 i0 (.int .u32 0) 1 4 Tryd.underlying54 hi hz0 hz1 hz2 rfl (by decide) _ _ _ rfl (HW.out.1.alloc _) ⟨wr.heap.size, 0, none⟩ 1 1 [.int .u32 (x : Int)] rfl rfl (cell_one_new _ _ _) (by simp [Value.oneCell']) (by unfold maxLen; omega) (by omega) (by have := HW.out.2.size; simp; omega) ?_); intro v' w1 hown' hgrow _))
      go_roundw
      case rel =>
        refine ⟨j + 1, by omega, by go_num, ?_, (HW.out.2.alloc (by have := HW.out.2.size; omega) _).grown hgrow (by have := HW.out.2.size; simp; omega) (fun b hb => (HW.out.1.lt b hb).1)⟩
        rw [HN.out]
        simpa [u32s] using hown'
      case measure => simp [intOf]; omega
    · obtain rfl : j = 4 := by omega
      have HW := hide1 (And.intro hrow hB)
      clear hrow hB
      go_wp2
      go_ret
      exact ⟨_, rfl, HW.out.1, HW.out.2⟩
end Go.Proofs.YtcgpokbijaioiaaDoor
