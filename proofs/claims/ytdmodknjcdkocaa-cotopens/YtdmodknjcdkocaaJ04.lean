/- Four bytes of a text as a word: word, and the document's. Words of a text laid into a grid: put; columns and slants turned: turnAll. -/
import Derived.Test.YtdmodknjcdkocaaJ03
import Derived.Laws.Strings2
namespace Go.Proofs.Ytdmodknjcdkocaa.Pg
open Go.RowKit
set_option maxRecDepth 100000
attribute [local go_sem] not_any

def le4 (a b c d : Nat) : Nat := a + b * 256 + c * 65536 + d * 16777216
def leW (l : List Nat) (i : Nat) : Nat := le4 (at0 l i) (at0 l (i + 1)) (at0 l (i + 2)) (at0 l (i + 3))
theorem leW_lt {l : List Nat} (h : Lt 256 l) (i : Nat) : leW l i < 4294967296 := by
  have h0 := h.at (by omega) i
  have h1 := h.at (by omega) (i + 1)
  have h2 := h.at (by omega) (i + 2)
  have h3 := h.at (by omega) (i + 3)
  unfold leW le4
  omega
theorem leW_drop (l : List Nat) (p i : Nat) : leW (l.drop p) i = leW l (p + i) := by
  simp [leW, at0_drop, Nat.add_assoc]
theorem leW_take {l : List Nat} {n i : Nat} (h : i + 3 < n) : leW (l.take n) i = leW l i := by
  unfold leW
  rw [at0_take (by omega), at0_take (by omega), at0_take (by omega), at0_take h]

theorem or4 {x0 x1 x2 x3 : Nat} (h0 : x0 < 256) (h1 : x1 < 256) (h2 : x2 < 256) (h3 : x3 < 256) :
    bits .or .u32 (bits .or .u32 (bits .or .u32 (x0 : Int) ((x1 : Int) * 256)) ((x2 : Int) * 65536)) ((x3 : Int) * 16777216) = (le4 x0 x1 x2 x3 : Nat) := by
  rw [u32_or8 (x0 : Int) ((x1 : Int) * 256) (by omega) (by omega) (by omega) (by omega) (by omega), u32_or16 ((x0 : Int) + (x1 : Int) * 256) ((x2 : Int) * 65536) (by omega) (by omega) (by omega) (by omega) (by omega), u32_or24 ((x0 : Int) + (x1 : Int) * 256 + (x2 : Int) * 65536) ((x3 : Int) * 16777216) (by omega) (by omega) (by omega) (by omega) (by omega)]
  unfold le4
  omega

theorem word_any (s : ByteArray) (w : World) (h : 4 ≤ s.size) :
    Calls Try.prog 69 #[.string s] w fun e w' => e = .returned (.int .u32 (leW (nums s) 0 : Nat)) ∧ ∃ q, w' = w.drewN q := by
  have i0 : ∀ w, (Instr.index 9 (.string s) (.int .i64 0)).run Try.prog w = _ := run_index s 0 (by omega)
  have i1 : ∀ w, (Instr.index 9 (.string s) (.int .i64 1)).run Try.prog w = _ := run_index s 1 (by omega)
  have i2 : ∀ w, (Instr.index 9 (.string s) (.int .i64 2)).run Try.prog w = _ := run_index s 2 (by omega)
  have i3 : ∀ w, (Instr.index 9 (.string s) (.int .i64 3)).run Try.prog w = _ := run_index s 3 (by omega)
  have b0 := (nums_lt s).at (by omega) 0
  have b1 := (nums_lt s).at (by omega) 1
  have b2 := (nums_lt s).at (by omega) 2
  have b3 := (nums_lt s).at (by omega) 3
  have HW : Shy (leW (nums s) 0 = le4 (at0 (nums s) 0) (at0 (nums s) 1) (at0 (nums s) 2) (at0 (nums s) 3)) := ⟨rfl⟩
  generalize at0 (nums s) 0 = x0 at *
  generalize at0 (nums s) 1 = x1 at *
  generalize at0 (nums s) 2 = x2 at *
  generalize at0 (nums s) 3 = x3 at *
  clear h
  go_enter Try.func69, Try.ntmps69
  go_wp2
  go_quiet (fail)
  go_wp2
  go_ret
  exact ⟨ret_int (by rw [HW.out]; exact or4 b0 b1 b2 b3), nq, rfl⟩

theorem rword_any (s : ByteArray) (w : World) (h : 4 ≤ s.size) :
    Calls Try.prog 61 #[.string s] w fun e w' => e = .returned (.int .u32 (leW (nums s) 0 : Nat)) ∧ ∃ q, w' = w.drewN q := by
  have i0 : ∀ w, (Instr.index 9 (.string s) (.int .i64 0)).run Try.prog w = _ := run_index s 0 (by omega)
  have i1 : ∀ w, (Instr.index 9 (.string s) (.int .i64 1)).run Try.prog w = _ := run_index s 1 (by omega)
  have i2 : ∀ w, (Instr.index 9 (.string s) (.int .i64 2)).run Try.prog w = _ := run_index s 2 (by omega)
  have i3 : ∀ w, (Instr.index 9 (.string s) (.int .i64 3)).run Try.prog w = _ := run_index s 3 (by omega)
  have b0 := (nums_lt s).at (by omega) 0
  have b1 := (nums_lt s).at (by omega) 1
  have b2 := (nums_lt s).at (by omega) 2
  have b3 := (nums_lt s).at (by omega) 3
  have HW : Shy (leW (nums s) 0 = le4 (at0 (nums s) 0) (at0 (nums s) 1) (at0 (nums s) 2) (at0 (nums s) 3)) := ⟨rfl⟩
  generalize at0 (nums s) 0 = x0 at *
  generalize at0 (nums s) 1 = x1 at *
  generalize at0 (nums s) 2 = x2 at *
  generalize at0 (nums s) 3 = x3 at *
  clear h
  go_enter Try.func61, Try.ntmps61
  go_wp2
  go_quiet (fail)
  go_wp2
  go_ret
  refine ⟨ret_int ?_, nq, rfl⟩
  rw [HW.out]
  unfold le4
  omega

theorem run_cut (s : ByteArray) (p q : Nat) (h1 : p ≤ q) (h2 : q ≤ s.size) (w : World) : (Instr.slice 9 (.string s) (some (.int .i64 (p : Int))) (some (.int .i64 (q : Int))) none).run Try.prog w = .ok (.string (s.extract p q)) w := by
  have := run_slice_string (P := Try.prog) w 9 s .i64 .i64 (p : Int) (q : Int) Try.underlying9 (by omega) (by omega) (by omega)
  simpa using this
theorem run_from (s : ByteArray) (p : Nat) (h2 : p ≤ s.size) (w : World) : (Instr.slice 9 (.string s) (some (.int .i64 (p : Int))) none none).run Try.prog w = .ok (.string (s.extract p s.size)) w := by
  have := Try.underlying9
  go_simp
end Go.Proofs.Ytdmodknjcdkocaa.Pg

namespace Go.Proofs.Ytdmodknjcdkocaa.Pg
open Go.RowKit
set_option maxRecDepth 100000
attribute [local go_sem] not_any

def putW (l : List Nat) (at1 : Nat) (bs : List Nat) : Nat → List Nat
  | 0 => l
  | k + 1 => (putW l at1 bs k).set (at1 + k) (leW bs (4 * k))
theorem putW_length (l : List Nat) (at1 : Nat) (bs : List Nat) : ∀ k, (putW l at1 bs k).length = l.length
  | 0 => rfl
  | k + 1 => by rw [putW, List.length_set, putW_length l at1 bs k]
theorem putW_lt {l : List Nat} (h : Lt 4294967296 l) (at1 : Nat) {bs : List Nat} (hb : Lt 256 bs) : ∀ k, Lt 4294967296 (putW l at1 bs k)
  | 0 => h
  | k + 1 => (putW_lt h at1 hb k).set (leW_lt hb _) _

theorem drewN_setRow (w : World) (g q : Nat) (cs : Array Value) : (w.drewN q).setRow g cs = (w.setRow g cs).drewN q := rfl
theorem drew_drewN (w : World) (q : Nat) : w.drew.drewN q = w.drewN (q + 1) := by
  rw [show w.drew = w.drewN 1 from rfl, World.drewN_drewN, Nat.add_comm]

set_option maxHeartbeats 4000000 in
theorem gput_any (l : List Nat) (g at1 n : Nat) (s : ByteArray) (t : TypeId) (w : World) (hr : w.heap[g]? = some (row32 t l)) (hl : l.length = 16) (hn : s.size = 4 * n) (ha : at1 + n ≤ 16) :
    Calls Try.prog 67 #[.pointer (some ⟨g, 0, none⟩), .int .i64 (at1 : Int), .string s] w fun e w' => e = .returned (.tuple #[]) ∧ ∃ q, w' = (w.setRow g (u32s (putW l at1 (nums s) n)).toArray).drewN q := by
  have HR := hide1 hr
  have Hl := hide1 hl
  have Hn : Shy (s.size = 4 * n) := ⟨hn⟩
  have Ha := hide1 ha
  have en : (s.size : Int) / 4 = (n : Int) := by omega
  have hn16 : (n : Int) ≤ 16 := by omega
  have ew : IntKind.i64.wrap (n : Int) = (n : Int) := by rw [IntKind.wrap_i64]; omega
  clear hr hl ha hn
  go_enter Try.func67, Try.ntmps67
  go_wp2
  go_loopw [10] (fun i wr => ∃ k q : Nat, k ≤ n ∧ i = .int .i64 k ∧ wr = (w.setRow g (u32s (putW l at1 (nums s) k)).toArray).drewN q) (fun i _ => n - (intOf i).toNat)
  case atStart => exact ⟨0, 0, Nat.zero_le _, rfl, (setRow_self w g _ t (0, 0) HR.out).symm⟩
  case round =>
    obtain ⟨k, q, hk, rfl, hwr⟩ := hrel
    by_cases hlt : k < n
    · obtain ⟨ak, hak⟩ : ∃ v, v = at1 + k := ⟨_, rfl⟩
      obtain ⟨p, hp⟩ : ∃ v, v = 4 * k := ⟨_, rfl⟩
      obtain ⟨p4, hp4⟩ : ∃ v, v = p + 4 := ⟨_, rfl⟩
      have hrow : wr.heap[g]? = some (row32 t (putW l at1 (nums s) k)) := by rw [hwr]; exact setRow_heap _ _ _ _ _ _ HR.out
      have hln : (putW l at1 (nums s) k).length = 16 := by rw [putW_length, Hl.out]
      have hak16 : ak < 16 := by have := Ha.out; omega
      have c1 := cell32 hrow (j := ak) (by rw [hln]; exact hak16)
      have f1 := frozen_of_row wr g ak _ _ hrow
      have HC := hide1 c1
      have HF := hide1 f1
      have e1 : (at1 : Int) + (k : Int) = (ak : Int) := by omega
      have e1' : IntKind.i64.wrap (ak : Int) = (ak : Int) := by rw [IntKind.wrap_i64]; omega
      have e2 : 4 * (k : Int) = (p : Int) := by omega
      have e2' : IntKind.i64.wrap (p : Int) = (p : Int) := by rw [IntKind.wrap_i64]; omega
      have e3 : (p : Int) + 4 = (p4 : Int) := by omega
      have e3' : IntKind.i64.wrap (p4 : Int) = (p4 : Int) := by rw [IntKind.wrap_i64]; omega
      have hcut := run_cut s p p4 (by omega) (by rw [Hn.out]; omega)
      have hnx : nums (s.extract p p4) = ((nums s).drop p).take 4 := by rw [nums_extract, hp4, Nat.add_sub_cancel_left]
      have hnz : 4 ≤ (s.extract p p4).size := by rw [nums_size hnx, List.length_take, List.length_drop, nums_length, Hn.out]; omega
      have hW := fun w => hide1 (word_any (s.extract p p4) w hnz)
      rw [hnx, leW_take (by omega), leW_drop, Nat.add_zero] at hW
      have HN : Shy (∀ q1, (wr.drew.drewN q1).setCell ⟨g, ak, none⟩ (.int .u32 (leW (nums s) p : Nat)) = (w.setRow g (u32s (putW l at1 (nums s) (k + 1))).toArray).drewN (q + (q1 + 1))) := ⟨fun q1 => by
        rw [setcell_row (w := wr.drew.drewN q1) hrow, hwr, putW, ← hak, ← hp, drew_drewN, World.drewN_drewN, drewN_setRow, setRow_setRow]⟩
      generalize s.extract p p4 = sp at *
      generalize leW (nums s) p = x at *
      generalize at0 (putW l at1 (nums s) k) ak = y at *
      have iak : (ak : Int) < 16 := by omega
      clear hak hp hp4 hwr hrow hln c1 f1 hnx hnz hak16
      go_upto_region 3 with (fail)
      refine region_f (F := [14]) (S := fun _ => True) (by kernel_rfl) trivial (fun _ => ?_)
      refine take_p 0 13 (.pointer (some ⟨g, 0, none⟩)) rfl rfl (by kernel_rfl) (by kernel_rfl) (by kernel_rfl) (fun _ _ _ h => h) rfl (fun w => by go_simp) ?_
      try simp only [List.setIfInBounds_toArray, List.set_cons_zero, List.set_cons_succ]
      refine take_p 1 14 (.int .i64 (at1 : Int)) rfl rfl (by kernel_rfl) (by kernel_rfl) (by kernel_rfl) (fun _ _ _ h => h) rfl (fun w => by go_simp) ?_
      try simp only [List.setIfInBounds_toArray, List.set_cons_zero, List.set_cons_succ]
      refine take_p 2 15 (.int .i64 (k : Int)) rfl rfl (by kernel_rfl) (by kernel_rfl) (by kernel_rfl) (fun _ _ _ h => h) rfl (fun w => by go_simp) ?_
      try simp only [List.setIfInBounds_toArray, List.set_cons_zero, List.set_cons_succ]
      refine take_p 3 16 (.int .i64 (ak : Int)) rfl rfl (by kernel_rfl) (by kernel_rfl) (by kernel_rfl) (fun _ _ _ h => h) rfl (fun w => by go_simp) ?_
      try simp only [List.setIfInBounds_toArray, List.set_cons_zero, List.set_cons_succ]
      refine take_p 4 17 (.string s) rfl rfl (by kernel_rfl) (by kernel_rfl) (by kernel_rfl) (fun _ _ _ h => h) rfl (fun w => by go_simp) ?_
      try simp only [List.setIfInBounds_toArray, List.set_cons_zero, List.set_cons_succ]
      refine take_p 5 18 (.int .i64 (k : Int)) rfl rfl (by kernel_rfl) (by kernel_rfl) (by kernel_rfl) (fun _ _ _ h => h) rfl (fun w => by go_simp) ?_
      try simp only [List.setIfInBounds_toArray, List.set_cons_zero, List.set_cons_succ]
      refine take_p 6 19 (.int .i64 (p : Int)) rfl rfl (by kernel_rfl) (by kernel_rfl) (by kernel_rfl) (fun _ _ _ h => h) rfl (fun w => by go_simp) ?_
      try simp only [List.setIfInBounds_toArray, List.set_cons_zero, List.set_cons_succ]
      refine take_p 7 20 (.int .i64 (k : Int)) rfl rfl (by kernel_rfl) (by kernel_rfl) (by kernel_rfl) (fun _ _ _ h => h) rfl (fun w => by go_simp) ?_
      try simp only [List.setIfInBounds_toArray, List.set_cons_zero, List.set_cons_succ]
      refine take_p 8 21 (.int .i64 (p : Int)) rfl rfl (by kernel_rfl) (by kernel_rfl) (by kernel_rfl) (fun _ _ _ h => h) rfl (fun w => by go_simp) ?_
      try simp only [List.setIfInBounds_toArray, List.set_cons_zero, List.set_cons_succ]
      refine take_p 9 22 (.int .i64 (p4 : Int)) rfl rfl (by kernel_rfl) (by kernel_rfl) (by kernel_rfl) (fun _ _ _ h => h) rfl (fun w => by go_simp) ?_
      try simp only [List.setIfInBounds_toArray, List.set_cons_zero, List.set_cons_succ]
      refine take_p 10 23 (.string sp) rfl rfl (by kernel_rfl) (by kernel_rfl) (by kernel_rfl) (fun _ _ _ h => h) rfl (fun w => by go_simp) ?_
      try simp only [List.setIfInBounds_toArray, List.set_cons_zero, List.set_cons_succ]
      refine take_p 12 25 (.pointer (some ⟨g, 0, none⟩)) rfl rfl (by kernel_rfl) (by kernel_rfl) (by kernel_rfl) (fun _ _ _ h => h) rfl (fun w => by go_simp) ?_
      try simp only [List.setIfInBounds_toArray, List.set_cons_zero, List.set_cons_succ]
      refine ready_f 11 (o := { dst := some 24, op := Op.call { callee := Callee.value (Operand.func 69), args := #[Operand.tmp 23], argTypes := #[9] }, type := 72, pos := "grid.go:31", after := #[{ on := 10, ground := Ground.data }], guard := none }) (by kernel_rfl) rfl (fun K hK => ?_)
      go_simp
      refine (hW _).out.mono ?_
      rintro e w1 ⟨rfl, q1, hw1⟩
      refine hK.out _ _ (fun _ _ => trivial) ?_
      clear hK K
      try simp only [Act.put, List.setIfInBounds_toArray, List.set_cons_zero, List.set_cons_succ]
      have c1 : w1.cell? ⟨g, ak, none⟩ = some (.int .u32 (y : Int)) := by rw [hw1]; exact HC.out
      have f1 : w1.frozen? ⟨g, ak, none⟩ = false := by rw [hw1]; exact HF.out
      have HW1 : Shy (w1 = wr.drew.drewN q1) := ⟨hw1⟩
      clear hw1
      refine take_p 13 26 (.pointer (some ⟨g, ak, none⟩)) rfl rfl (by kernel_rfl) (by kernel_rfl) (by kernel_rfl) (fun _ _ _ h => h) rfl (fun w => by go_simp) ?_
      try simp only [List.setIfInBounds_toArray, List.set_cons_zero, List.set_cons_succ]
      refine ready_f 14 (o := { dst := none, op := Op.store 72 (Operand.tmp 26) (Operand.tmp 24), type := 0, pos := "grid.go:31", after := #[{ on := 13, ground := Ground.data }, { on := 11, ground := Ground.data }, { on := 11, ground := Ground.chain }, { on := 0, ground := Ground.phase }, { on := 1, ground := Ground.phase }, { on := 2, ground := Ground.phase }, { on := 3, ground := Ground.phase }, { on := 4, ground := Ground.phase }, { on := 5, ground := Ground.phase }, { on := 6, ground := Ground.phase }, { on := 7, ground := Ground.phase }, { on := 8, ground := Ground.phase }, { on := 9, ground := Ground.phase }, { on := 10, ground := Ground.phase }, { on := 11, ground := Ground.phase }], guard := none }) (by kernel_rfl) rfl (fun K hK => ?_)
      go_simp
      refine hK.out _ _ (fun h => absurd (by decide) h) ?_
      clear hK K
      refine done_f (by kernel_rfl) ?_ _
      generalize hX : World.setCell _ _ _ = X
      have HX : Shy (X = (w.setRow g (u32s (putW l at1 (nums s) (k + 1))).toArray).drewN (q + (q1 + 1))) := ⟨by rw [← hX, HW1.out]; exact HN.out q1⟩
      clear hX
      go_wp2
      go_roundw
      case rel => exact ⟨k + 1, q + (q1 + 1), by omega, by go_num, HX.out⟩
      case measure => simp [intOf]; omega
    · have : k = n := by omega
      subst this
      have HW := hide1 hwr
      clear hwr
      go_wp2
      go_end0
      exact ⟨rfl, q, HW.out⟩

theorem drew_drewN' (w : World) (q : Nat) : (w.drewN q).drew = w.drewN (q + 1) := rfl

set_option maxHeartbeats 4000000 in
theorem turnAll_any (l : List Nat) (g : Nat) (t : TypeId) (w : World) (hr : w.heap[g]? = some (row32 t l)) (hl : l.length = 16) (ht : Lt 4294967296 l) :
    Calls Try.prog 68 #[.pointer (some ⟨g, 0, none⟩)] w fun e w' => e = .returned (.tuple #[]) ∧ ∃ q, w' = (w.setRow g (u32s (twice l)).toArray).drewN q := by
  have HR := hide1 hr
  have Hl := hide1 hl
  have HT := hide1 ht
  clear hr hl ht
  go_enter Try.func68, Try.ntmps68
  go_wp2
  go_loopw [4] (fun i wr => ∃ k q : Nat, k ≤ 4 ∧ i = .int .i64 k ∧ wr = (w.setRow g (u32s (turns 0 l k)).toArray).drewN q) (fun i _ => 4 - (intOf i).toNat)
  case atStart => exact ⟨0, 0, Nat.zero_le _, rfl, (setRow_self w g _ t (0, 0) HR.out).symm⟩
  case round =>
    obtain ⟨k, q, hk, rfl, hwr⟩ := hrel
    by_cases hlt : k < 4
    · have hrow : wr.heap[g]? = some (row32 t (turns 0 l k)) := by rw [hwr]; exact setRow_heap _ _ _ _ _ _ HR.out
      have hln : (turns 0 l k).length = 16 := by rw [turns_length, Hl.out]
      have hI : turns 0 l (k + 1) = turnP (turns 0 l k) k (4 + k) (8 + k) (12 + k) := by
        rw [turns, turnI, Nat.mul_zero, Nat.add_zero, Nat.mod_eq_of_lt hlt]
      have hC := hide1 (turn_any (turns 0 l k) g k (4 + k) (8 + k) (12 + k) t wr hrow hln (turns_lt HT.out k) (by omega) (by omega) (by omega) (by omega))
      rw [← hI, hwr, drewN_setRow, setRow_setRow, drew_drewN', ← hwr] at hC
      clear hrow hln hI hwr
      simp only [Int.natCast_add] at hC
      go_wp2_with (go_at_call 70; refine hC.out.mono ?_; rintro e w1 ⟨rfl, hw1⟩; have HW1 := hide1 hw1; clear hw1)
      go_roundw
      case rel => exact ⟨k + 1, q + 1, by omega, by go_num, HW1.out⟩
      case measure => simp [intOf]; omega
    · have : k = 4 := by omega
      subst this
      obtain ⟨V, hV⟩ : ∃ V, V = wr := ⟨_, rfl⟩
      subst hV
      have HV : Hid (V.heap[g]? = some (row32 t (turns 0 l 4))) := by show _ = _; rw [hwr]; exact setRow_heap _ _ _ _ _ _ HR.out
      have Hwr := hide1 hwr
      clear hwr
      rw [show ((4 : Nat) : Int) = 4 from rfl]
      go_wp2
      go_loopw [17] (fun i wr => ∃ k q : Nat, k ≤ 4 ∧ i = .int .i64 k ∧ wr = (V.setRow g (u32s (turns 1 (turns 0 l 4) k)).toArray).drewN q) (fun i _ => 4 - (intOf i).toNat)
      case atStart => exact ⟨0, 0, Nat.zero_le _, rfl, (setRow_self V g _ t (0, 0) HV.out).symm⟩
      case round =>
        obtain ⟨k, q2, hk, rfl, hwr⟩ := hrel
        by_cases hlt : k < 4
        · have hrow : wr.heap[g]? = some (row32 t (turns 1 (turns 0 l 4) k)) := by rw [hwr]; exact setRow_heap _ _ _ _ _ _ HV.out
          have hln : (turns 1 (turns 0 l 4) k).length = 16 := by rw [turns_length, turns_length, Hl.out]
          have hI : turns 1 (turns 0 l 4) (k + 1) = turnP (turns 1 (turns 0 l 4) k) k (4 + (k + 1) % 4) (8 + (k + 2) % 4) (12 + (k + 3) % 4) := by
            rw [turns, turnI]
          have hC := hide1 (turn_any (turns 1 (turns 0 l 4) k) g k (4 + (k + 1) % 4) (8 + (k + 2) % 4) (12 + (k + 3) % 4) t wr hrow hln (turns_lt (turns_lt HT.out 4) k) (by omega) (by omega) (by omega) (by omega))
          rw [← hI, hwr, drewN_setRow, setRow_setRow, drew_drewN', ← hwr] at hC
          clear hrow hln hI hwr
          simp only [Int.natCast_add] at hC
          go_wp2_with (go_at_call 70; refine hC.out.mono ?_; rintro e w1 ⟨rfl, hw1⟩; have HW1 := hide1 hw1; clear hw1)
          go_roundw
          case rel => exact ⟨k + 1, q2 + 1, by omega, by go_num, HW1.out⟩
          case measure => simp [intOf]; omega
        · have : k = 4 := by omega
          subst this
          have HW := hide1 hwr
          clear hwr
          go_wp2
          go_end0
          refine ⟨rfl, q + q2, ?_⟩
          rw [HW.out, Hwr.out, drewN_setRow, setRow_setRow, World.drewN_drewN]
          rfl
end Go.Proofs.Ytdmodknjcdkocaa.Pg
