/- The document's own answers: words and bytes of truths, and how many are true. The document's own words of truths. Numbers read and written; texts made anew. -/
import Derived.Test.YtcadlcpccemkbaaMDEFM
import Derived.Test.YtcadlcpccemkbaaMPbKL
import Derived.Deep.DeepMust
namespace Go.Proofs.Ytcadlcpccemkbaa.X
open Go.RowKit
set_option maxRecDepth 100000
attribute [local go_sem] not_any mf_any

theorem take_snoc {l : List Bool} {k : Nat} {b : Bool} (h : l[k]? = some b) : l.take (k + 1) = l.take k ++ [b] := by
  rw [List.take_add_one, h]
  rfl

theorem chunks_snoc_false {s : Nat} (hs : 0 < s) (A : List Bool) : chunks s (A ++ [false]) = if A.length % s = 0 then chunks s A ++ [0] else chunks s A := by
  have hg : ∀ i, (A ++ [false]).getD i false = A.getD i false := by
    intro i
    simp only [List.getD_eq_getElem?_getD, List.getElem?_append]
    by_cases h : i < A.length
    · simp [h]
    · rw [if_neg h, List.getElem?_eq_none (show A.length ≤ i by omega)]
      match h' : i - A.length with
      | 0 => rfl
      | j + 1 => rfl
  symm
  split
  · rename_i h
    apply chunks_ext
    · rw [List.length_append, chunks_length, List.length_append, List.length_singleton, List.length_singleton]
      unfold need
      obtain ⟨q, hq⟩ : ∃ q, A.length = s * q := ⟨A.length / s, by have := Nat.div_add_mod A.length s; omega⟩
      rw [hq, show s * q + 1 + s - 1 = s * (q + 1) by rw [Nat.mul_add]; omega, Nat.mul_div_cancel_left _ hs, show s * q + s - 1 = s * q + (s - 1) by omega, Nat.mul_add_div hs, Nat.div_eq_of_lt (show s - 1 < s by omega)]
    · intro k x hx
      rw [List.getElem?_append] at hx
      split at hx
      · obtain ⟨h1, rfl⟩ := chunks_get' hx
        refine ⟨chunk_lt _ _ _, fun j hj => ?_⟩
        rw [chunk_testBit, hg]
        simp [hj]
      · rename_i hk
        rw [chunks_length] at hk hx
        have hx0 : x = 0 := by
          match h' : k - need A.length s, hx with
          | 0, hx => simpa [h'] using hx.symm
          | j + 1, hx => simp at hx
        subst hx0
        refine ⟨Nat.two_pow_pos s, fun j hj => ?_⟩
        rw [Nat.zero_testBit, hg, List.getD_eq_getElem?_getD, List.getElem?_eq_none]
        · rfl
        · have h1 : A.length ≤ s * need A.length s := by
            unfold need
            have := Nat.div_add_mod (A.length + s - 1) s
            have := Nat.mod_lt (A.length + s - 1) hs
            omega
          have h2 : s * need A.length s ≤ s * k := Nat.mul_le_mul_left _ (by omega)
          omega
  · rename_i h
    apply chunks_ext
    · rw [chunks_length, List.length_append, List.length_singleton]
      unfold need
      have h0 := Nat.div_add_mod A.length s
      have h1 := Nat.mod_lt A.length hs
      rw [show A.length + s - 1 = s * (A.length / s) + (A.length % s + s - 1) by omega, show A.length + 1 + s - 1 = s * (A.length / s) + (A.length % s + s) by omega, Nat.mul_add_div hs, Nat.mul_add_div hs]
      congr 1
      rw [show A.length % s + s - 1 = s * 1 + (A.length % s - 1) by omega, show A.length % s + s = s * 1 + A.length % s by omega, Nat.mul_add_div hs, Nat.mul_add_div hs, Nat.div_eq_of_lt (by omega), Nat.div_eq_of_lt h1]
    · intro k x hx
      obtain ⟨h1, rfl⟩ := chunks_get' hx
      refine ⟨chunk_lt _ _ _, fun j hj => ?_⟩
      rw [chunk_testBit, hg]
      simp [hj]

theorem chunk_last_lt {s : Nat} (A : List Bool) : chunk s (A ++ [false]) (A.length / s) < 2 ^ (A.length % s) := by
  have h0 := Nat.div_add_mod A.length s
  apply Nat.lt_pow_two_of_testBit
  intro j hj
  rw [chunk_testBit, List.getD_eq_getElem?_getD, List.getElem?_append]
  split
  · omega
  · match h' : s * (A.length / s) + j - A.length with
    | 0 => simp
    | i + 1 => simp

theorem chunks_snoc_true {s : Nat} (hs : 0 < s) (A : List Bool) : chunks s (A ++ [true]) = (chunks s (A ++ [false])).set (A.length / s) (chunk s (A ++ [false]) (A.length / s) + 2 ^ (A.length % s)) := by
  have e : A ++ [true] = (A ++ [false]).set A.length true := by
    rw [List.set_append]
    simp
  rw [e, chunks_set_true hs _ _ (by simp), Nat.or_comm, nat_join (A.length % s) _ _ (Nat.mod_self _) (chunk_last_lt A), Nat.add_comm]

theorem need_snoc64 (k : Nat) : need (k + 1) 64 = if k % 64 = 0 then need k 64 + 1 else need k 64 := by
  rw [need64, need64]
  split <;> omega
theorem need_snoc8 (k : Nat) : need (k + 1) 8 = if k % 8 = 0 then need k 8 + 1 else need k 8 := by
  rw [need8, need8]
  split <;> omega

end Go.Proofs.Ytcadlcpccemkbaa.X

namespace Go.Proofs.Ytcadlcpccemkbaa.X
open Go.RowKit
set_option maxRecDepth 100000
attribute [local go_sem] not_any mf_any

theorem info55 : (Try.prog.info? 117).map (fun i => (i.zero, i.size, i.bytes)) = some (some (.int .u64 0), 1, 8) := by kernel_rfl

theorem row_form {w : World} {base : Nat} {e : TypeId} {size n : Nat} {v : Value} {xs : List Value} (h : w.ownsRow base e size v n xs) : ∃ a c, v = .slice a n c := by
  rcases h.2 with ⟨h1, h2⟩ | ⟨g, cap, cur, h1, _⟩
  · exact ⟨none, 0, by rw [h1, h2]⟩
  · exact ⟨_, _, h1⟩

theorem row_some {w : World} {base : Nat} {e : TypeId} {size n : Nat} {v : Value} {xs : List Value} (h : w.ownsRow base e size v n xs) (hn : 0 < n) : ∃ g c, v = .slice (some ⟨g, 0, none⟩) n c ∧ base ≤ g ∧ g < w.heap.size := by
  rcases h.2 with ⟨h1, h2⟩ | ⟨g, cap, cur, h1, h2, h3, _⟩
  · omega
  · exact ⟨g, cap, h1, h2, lt_heap h3⟩

theorem own_nl {w : World} {base n : Nat} {a : Option Addr} {c : Nat} {ws : List Nat} (h : w.ownsRow base 117 1 (.slice a n c) n (u64s ws)) (hl : ws.length = n) : Nl w n a ws :=
  ⟨hl, fun j x hj => by
    have hjn : j < n := by rw [← hl]; exact (List.getElem?_eq_some_iff.1 hj).1
    obtain ⟨g, c', hv, _⟩ := row_some h (by omega)
    cases hv
    refine ⟨g, 0, rfl, ?_⟩
    rw [Nat.zero_add, h.cellAt j (by omega)]
    simp [u64s, hj]⟩

theorem u64s_snoc (ws : List Nat) : u64s ws ++ [.int .u64 0] = u64s (ws ++ [0]) := by simp [u64s]
theorem u64s_set (ws : List Nat) (j x : Nat) : (u64s ws).set j (.int .u64 (x : Int)) = u64s (ws.set j x) := by simp [u64s]

end Go.Proofs.Ytcadlcpccemkbaa.X

namespace Go.Proofs.Ytcadlcpccemkbaa.X
open Go.RowKit
set_option maxRecDepth 100000
attribute [local go_sem] not_any mf_any

theorem or_256 {x b : Nat} (h : b < 256) : x * 256 ||| b = 256 * x + b := by
  rw [Nat.mul_comm x 256, show (256 : Nat) = 2 ^ 8 by rfl, ← Nat.two_pow_add_eq_or_of_lt h]

set_option maxHeartbeats 1000000 in
theorem numberOf_any (s : ByteArray) (w : World) (hs : s.size ≤ 8) :
    Calls Try.prog 70 #[.string s] w fun e w' => e = .returned (.int .u64 (val (nums s) : Nat)) ∧ w' = w := by
  have HL := nums_all s
  go_enter Try.func70, Try.ntmps70
  go_wp2
  go_loop [3, 7] (fun x i => ∃ k : Nat, k ≤ s.size ∧ i = .int .i64 k ∧ x = .int .u64 (val ((nums s).take k) : Nat)) (fun _ i => s.size - (intOf i).toNat)
  case atStart => exact ⟨0, Nat.zero_le _, rfl, rfl⟩
  case round =>
    obtain ⟨k, hk, rfl, rfl⟩ := hrel
    by_cases hlt : k < s.size
    · have hv := val_lt _ (HL.take k)
      have hx := nums_at hlt
      have hb := nums_lt hx
      have hts : (nums s).take (k + 1) = (nums s).take k ++ [(s[k]'hlt).toNat] := by rw [List.take_add_one, hx]; rfl
      have HS : Shy (val ((nums s).take (k + 1)) = 256 * val ((nums s).take k) + (s[k]'hlt).toNat) := ⟨by rw [hts, val_snoc]⟩
      have hk8 : ((nums s).take k).length = k := by rw [List.length_take, nums_length]; omega
      rw [hk8] at hv
      have hv2 : 256 * val ((nums s).take k) < 18446744073709551616 := by
        have : 256 ^ (k + 1) ≤ 256 ^ 8 := Nat.pow_le_pow_right (by omega) (by omega)
        rw [Nat.pow_succ] at this
        omega
      clear hts hv hx hk8
      obtain ⟨v', hv'⟩ : ∃ v', val ((nums s).take (k + 1)) = v' := ⟨_, rfl⟩
      rw [hv'] at HS
      have HV' : Shy (val ((nums s).take (k + 1)) = v') := ⟨hv'⟩
      clear hv'
      generalize val ((nums s).take k) = v at *
      have hor : bits .or .u64 ((v * 256 : Nat) : Int) ((s[k]'hlt).toNat : Int) = ((v' : Nat) : Int) := by
        rw [u64_or_nat _ _ (by omega) (by omega), or_256 hb, ← HS.out]
      have hsh : IntKind.u64.wrap ((v : Int) * 256) = ((v * 256 : Nat) : Int) := by rw [IntKind.wrap_u64]; omega
      clear HL
      go_wp2
      go_round
      case rel => exact ⟨k + 1, by omega, by go_num, by rw [HV'.out, ← hor, Int.natCast_mul]; rfl⟩
      case measure => simp [intOf]; omega
    · have : k = s.size := by omega
      go_wp2
      go_ret
      rw [List.take_of_length_le (by rw [nums_length]; omega)]
      exact ⟨rfl, rfl⟩

theorem size5 : (Try.prog.info? 5).map (·.size) = some 1 := by kernel_rfl
set_option maxHeartbeats 4000000 in
theorem liteClone_any (s : ByteArray) (w : World) (hlim : s.size ≤ 281474976710656) :
    Calls Try.prog 32 #[.string s] w fun e w' => e = .returned (.string s) ∧ Below w.heap.size w w' := by
  have mixed := mixed
  by_cases h0 : s.size = 0
  · have hs : s = ⟨#[]⟩ := by
      apply ByteArray.ext
      exact Array.eq_empty_of_size_eq_zero h0
    subst hs
    go_enter Try.func32, Try.ntmps32
    go_wp2
    go_ret
    exact ⟨rfl, Below.refl _ _⟩
  · have hi5 : (Try.prog.info? 5).map (fun i => (i.zero, i.size, i.bytes)) = some (some (.int .u8 0), 1, 1) := by kernel_rfl
    obtain ⟨i0, hi, hz0, hz1, hz2⟩ := info_parts hi5
    have hco : Try.prog.cellsOf 5 = 1 := by kernel_rfl
    obtain ⟨M, hM⟩ : ∃ M, M = madeCells (Value.int .u8 0).cells (((s.size : Nat) : Int).toNat * i0.size) := ⟨_, rfl⟩
    have hMs : M.size = s.size := by rw [hM, size_madeCells, hz1]; simp
    have hmk : ∀ W : World, (Instr.makeSlice 99 (.int .i64 (s.size : Int)) (.int .i64 (s.size : Int))).run Try.prog W = .ok (.slice (some ⟨W.heap.size, 0, none⟩) s.size s.size) (W.alloc (.cells M 5)) := fun W => by
      have h := run_make (P := Try.prog) W 99 5 i0 (.int .u8 0) Try.underlying99 hi hz0 .i64 .i64 (s.size : Int) (s.size : Int) (by omega) (by omega) (by rw [hz2]; omega) (by omega)
      rw [← hM] at h
      simpa using h
    clear hM
    have hcp := Lib.run_copy_row_string (P := Try.prog) (w.alloc (.cells M 5)) 99 9 3 5 w.heap.size 0 s.size s.size s M 5 Try.underlying99 size5 (heap_alloc_new w _) (Nat.le_refl _) (by omega)
    obtain ⟨Y, hY⟩ : ∃ Y, Y = (M.toList.take 0 ++ Lib.byteCells s.data.toList ++ M.toList.drop (0 + s.size)).toArray := ⟨_, rfl⟩
    rw [← hY] at hcp
    have hYl : Y.toList = Lib.byteCells s.data.toList := by
      rw [hY, List.toList_toArray, List.take_zero, List.nil_append, List.drop_of_length_le (by rw [Array.length_toList]; omega), List.append_nil]
    have hYs : Y.size = s.size := by rw [← Array.length_toList, hYl, Lib.byteCells_length, ← Lib.size_eq]
    have hgY : ((w.alloc (.cells M 5)).setRow w.heap.size Y).heap[w.heap.size]? = some (.cells Y 5 (0, 0)) := setRow_heap _ _ M _ 5 (0, 0) (heap_alloc_new w _)
    have hne : s.data.toList ≠ [] := fun e => h0 (by rw [Lib.size_eq, e]; rfl)
    have hUS := Lib.run_unsafeString_row (P := Try.prog) ((w.alloc (.cells M 5)).setRow w.heap.size Y) 100 3 9 5 Try.underlying100 hco w.heap.size Y.size (by unfold World.shape?; rw [hgY]) s.data.toList hne (by rw [← Lib.size_eq]; omega) (by rw [← Lib.size_eq]; omega)
      (fun j x hx => Lib.cells_of_row hgY Y.size j _ (by rw [List.take_of_length_le (by rw [Array.length_toList]; exact Nat.le_refl _), hYl]; simp [Lib.byteCells, hx]))
    rw [← Lib.size_eq] at hUS
    clear hY
    go_enter Try.func32, Try.ntmps32
    go_wp2
    go_ret
    have hb1 : Below w.heap.size w (w.alloc (.cells M 5)) := (Below.refl _ w).alloc (Nat.le_refl _) _
    have hb2 : Below w.heap.size (w.alloc (.cells M 5)) ((w.alloc (.cells M 5)).setRow w.heap.size Y) := ⟨rfl, rfl, rfl, by simp, fun k hk => setRow_other _ _ _ _ (by omega)⟩
    exact ⟨rfl, Lib.below_freeze (hb1.trans hb2) (p := ⟨w.heap.size, 0, none⟩) (Nat.le_refl _) _⟩

theorem clone_any (s : ByteArray) (w : World) (hlim : s.size ≤ 281474976710656) :
    Calls Try.prog 24 #[.string s] w fun e w' => e = .returned (.string s) ∧ Below w.heap.size w w' := by
  have k := hide1 (liteClone_any s w hlim)
  clear hlim
  go_enter Try.func24, Try.ntmps24
  go_wp2_with (go_at_call 32; refine k.out.mono ?_; rintro e w' ⟨rfl, hb⟩)
  go_ret
  exact ⟨rfl, hb⟩

theorem info5 : (Try.prog.info? 5).map (fun i => (i.zero, i.size, i.bytes)) = some (some (.int .u8 0), 1, 1) := by kernel_rfl
theorem fix_step {x n k : Nat} (h : k < n) : fix (x / 256 ^ (n - (k + 1))) (k + 1) = fix (x / 256 ^ (n - k)) k ++ [x / 2 ^ (8 * (n - 1 - k)) % 256] := by
  rw [fix, Nat.div_div_eq_div_mul, ← Nat.pow_succ, show (n - (k + 1)).succ = n - k by omega, show n - 1 - k = n - (k + 1) by omega, Nat.pow_mul]

set_option maxHeartbeats 2000000 in
theorem appendNumber_any (base : Nat) (w : World) (v : Value) (m x n : Nat) (L : List Nat) (hrow : w.ownsRow base 5 1 v m (u8s L)) (hL : L.length = m) (hb : base ≤ w.heap.size) (hn : n ≤ 8) (hm : m ≤ 100000000) :
    Calls Try.prog 71 #[v, .int .u64 (x : Int), .int .i64 (n : Int)] w fun e w' => ∃ v', e = .returned v' ∧ w'.ownsRow base 5 1 v' (m + n) (u8s (L ++ fix x n)) ∧ Below base w w' := by
  obtain ⟨i0, hi, hz0, hz1, hz2⟩ := info_parts info5
  have HR := hide1 hrow
  obtain ⟨la0, lc0, rfl⟩ := row_form hrow
  have HB := hide1 hb
  clear hrow hb
  go_enter Try.func71, Try.ntmps71
  go_wp2
  go_loopw [0, 7] (fun ov i wr => ∃ k : Nat, k ≤ n ∧ i = .int .i64 ((n : Int) - 1 - (k : Int)) ∧ wr.ownsRow base 5 1 ov (m + k) (u8s (L ++ fix (x / 256 ^ (n - k)) k)) ∧ Below base w wr) (fun _ i _ => (intOf i + 1).toNat)
  case atStart =>
    refine ⟨0, Nat.zero_le _, by simp, ?_, Below.refl _ _⟩
    rw [fix, List.append_nil]
    exact HR.out
  case round =>
    obtain ⟨k, hk, rfl, hrow, hB⟩ := hrel
    obtain ⟨la, lc, rfl⟩ := row_form hrow
    by_cases hlt : k < n
    · obtain ⟨j, hj⟩ : ∃ j, j = n - 1 - k := ⟨_, rfl⟩
      have ej : (n : Int) - 1 - (k : Int) = (j : Int) := by omega
      rw [ej]
      have HF := hide1 (fix_step (x := x) hlt)
      rw [← hj] at HF
      obtain ⟨p, hp⟩ : ∃ p, p = 8 * j := ⟨_, rfl⟩
      have ep : 8 * (j : Int) = (p : Int) := by omega
      have hp64 : (p : Int) < 64 := by omega
      rw [← hp] at HF
      obtain ⟨z, hz⟩ : ∃ z, z = x / 2 ^ p % 256 := ⟨_, rfl⟩
      have ez : (x : Int) / 2 ^ p % 256 = (z : Int) := by
        rw [hz, Int.natCast_emod, Int.natCast_ediv, Int.natCast_pow]; rfl
      have ez' : IntKind.u8.wrap ((x : Int) / 2 ^ p) = (z : Int) := by rw [IntKind.wrap_u8, ez]
      rw [← hz] at HF
      have HJ := hide1 hj
      have HW := hide1 (And.intro hrow hB)
      have hmk : m + k ≤ 100000008 := by omega
      clear hz hp hrow hB hj ej
      go_wp2_with (at_builtin; go_must (refine wpList_append_own _ rfl _ _ 99 rfl base 5 i0 (.int .u8 0) 1 1 Try.underlying99 hi hz0 hz1 hz2 rfl (by decide) _ _ _ rfl (HW.out.1.alloc _) ⟨wr.heap.size, 0, none⟩ 1 1 [.int .u8 (z : Int)] rfl rfl (cell_one_new _ _ _) (by simp [Value.oneCell']) (by unfold maxLen; omega) (by omega) (by have := HW.out.2.size; have := HB.out; simp; omega) ?_); intro v' w1 hown' hgrow _)
      go_roundw
      case rel =>
        refine ⟨k + 1, by omega, ?_, ?_, (HW.out.2.alloc (by have := HW.out.2.size; have := HB.out; omega) _).grown hgrow (by have := HW.out.2.size; have := HB.out; simp; omega) (fun b hb => (HW.out.1.lt b hb).1)⟩
        · have := HJ.out
          congr 1
          omega
        · rw [HF.out]
          simpa [u8s, Nat.add_assoc] using hown'
      case measure => have := HJ.out; simp [intOf]
    · obtain rfl : k = n := by omega
      have hneg : (k : Int) - 1 - (k : Int) = -1 := by omega
      rw [hneg]
      rw [Nat.sub_self, Nat.pow_zero, Nat.div_one] at hrow
      go_wp2
      go_ret
      exact ⟨_, rfl, hrow, hB⟩
end Go.Proofs.Ytcadlcpccemkbaa.X
