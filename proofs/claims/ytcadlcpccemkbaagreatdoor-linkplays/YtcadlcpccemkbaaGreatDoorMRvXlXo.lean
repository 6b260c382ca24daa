/- The document's value of bytes. The document's numbers of a frame. The document's Decode. -/
import Derived.Test.YtcadlcpccemkbaaGreatDoorMRSWb
import Derived.Test.YtcadlcpccemkbaaGreatDoorMXiWh
import Derived.Test.YtcadlcpccemkbaaGreatDoorXf
import Derived.Test.YtcadlcpccemkbaaGreatDoorMXjDm
namespace Go.Proofs.YtcadlcpccemkbaaGreatDoor.X
open Go.RowKit
set_option maxRecDepth 100000
attribute [local go_sem] not_any mf_any

set_option maxHeartbeats 1000000 in
theorem value_any (s : ByteArray) (w : World) (hs : s.size ≤ 8) :
    Calls Tryz.prog 103 #[.string s] w fun e w' => e = .returned (.int .u64 (val (nums s) : Nat)) ∧ w' = w := by
  have HL := nums_all s
  go_enter Tryz.func103, Tryz.ntmps103
  go_wp2
  go_loop [3, 4] (fun x i => ∃ k : Nat, k ≤ s.size ∧ i = .int .i64 k ∧ x = .int .u64 (val ((nums s).take k) : Nat)) (fun _ i => s.size - (intOf i).toNat)
  case atStart => exact ⟨0, Nat.zero_le _, rfl, rfl⟩
  case round =>
    obtain ⟨k, hk, rfl, rfl⟩ := hrel
    by_cases hlt : k < s.size
    · have hv := val_lt _ (HL.take k)
      have hx := nums_at hlt
      have hb := nums_lt hx
      have hts : (nums s).take (k + 1) = (nums s).take k ++ [(s[k]'hlt).toNat] := by rw [List.take_add_one, hx]; rfl
      have HS : Shy (val ((nums s).take (k + 1)) = 256 * val ((nums s).take k) + (s[k]'hlt).toNat) := ⟨by rw [hts, val_snoc]⟩
      have hk8 : ((nums s).take k).length = k := by rw [List.length_take, nums_length]; omega
      rw [hk8] at hv
      have hv2 : 256 * val ((nums s).take k) + 256 ≤ 18446744073709551616 := by
        have : 256 ^ (k + 1) ≤ 256 ^ 8 := Nat.pow_le_pow_right (by omega) (by omega)
        rw [Nat.pow_succ] at this
        omega
      clear hts hv hx hk8
      generalize val ((nums s).take k) = v at *
      have h1 : IntKind.u64.wrap (256 * (v : Int)) = 256 * (v : Int) := by rw [IntKind.wrap_u64]; omega
      have h2 : IntKind.u64.wrap (256 * (v : Int) + ((s[k]'hlt).toNat : Int)) = 256 * (v : Int) + ((s[k]'hlt).toNat : Int) := by rw [IntKind.wrap_u64]; omega
      clear HL
      go_wp2
      go_round
      case rel => exact ⟨k + 1, by omega, by go_num, by rw [HS.out]; simp⟩
      case measure => simp [intOf]; omega
    · have : k = s.size := by omega
      go_wp2
      go_ret
      rw [List.take_of_length_le (by rw [nums_length]; omega)]
      exact ⟨rfl, rfl⟩
end Go.Proofs.YtcadlcpccemkbaaGreatDoor.X

namespace Go.Proofs.YtcadlcpccemkbaaGreatDoor.X
open Go.RowKit
set_option maxRecDepth 100000
attribute [local go_sem] not_any mf_any

theorem run_cut (s : ByteArray) (p q : Nat) (h1 : p ≤ q) (h2 : q ≤ s.size) (w : World) : (Instr.slice 9 (.string s) (some (.int .i64 (p : Int))) (some (.int .i64 (q : Int))) none).run Tryz.prog w = .ok (.string (s.extract p q)) w := by
  have := Tryz.underlying9
  go_simp
def nl (s : ByteArray) (j : Nat) : List Nat := (List.range j).map (fun i => hdN s (1 + 4 * i))
theorem nl_length (s : ByteArray) (j : Nat) : (nl s j).length = j := by simp [nl]
theorem nl_step (s : ByteArray) (j : Nat) : nl s (j + 1) = nl s j ++ [hdN s (1 + 4 * j)] := by simp [nl, List.range_succ]
theorem nl_four (s : ByteArray) : nl s 4 = [hdN s 1, hdN s 5, hdN s 9, hdN s 13] := rfl
theorem cut_val (s : ByteArray) (p : Nat) : val (nums (s.extract p (p + 4))) = hdN s p := by
  rw [nums_extract, List.drop_take, Nat.add_sub_cancel_left]
  rfl
theorem info22 : (Tryz.prog.info? 22).map (fun i => (i.zero, i.size, i.bytes)) = some (some (.int .u32 0), 1, 4) := by kernel_rfl

set_option maxHeartbeats 2000000 in
theorem numbers_any (s : ByteArray) (w : World) (h17 : 17 ≤ s.size) (hs : s.size ≤ 66000) :
    Calls Tryz.prog 89 #[.string s] w fun e w' => ∃ v, e = .returned v ∧ w'.ownsRow w.heap.size 22 1 v 4 (u32s (nl s 4)) ∧ Below w.heap.size w w' := by
  obtain ⟨i0, hi, hz0, hz1, hz2⟩ := info_parts info22
  have H17 : Shy (17 ≤ s.size) := ⟨h17⟩
  have HS : Shy (s.size ≤ 66000) := ⟨hs⟩
  clear h17 hs
  go_enter Tryz.func89, Tryz.ntmps89
  go_wp2
  go_loopw [3, 4] (fun lv iv wr => ∃ j : Nat, j ≤ 4 ∧ iv = .int .i64 j ∧ wr.ownsRow w.heap.size 22 1 lv j (u32s (nl s j)) ∧ Below w.heap.size w wr) (fun _ iv _ => 4 - (intOf iv).toNat)
  case atStart => exact ⟨0, Nat.zero_le _, rfl, World.ownsRow_nil _ _ _ _, Below.refl _ _⟩
  case round =>
    obtain ⟨j, hj, rfl, hrow, hB⟩ := hrel
    obtain ⟨la, lc, rfl⟩ := row_form hrow
    by_cases hlt : j < 4
    · obtain ⟨pa, hpa⟩ : ∃ p, p = 1 + 4 * j := ⟨_, rfl⟩
      obtain ⟨pb, hpb⟩ : ∃ p, p = 5 + 4 * j := ⟨_, rfl⟩
      obtain ⟨m, hm⟩ : ∃ p, p = 4 * j := ⟨_, rfl⟩
      have em : 4 * (j : Int) = (m : Int) := by omega
      have ea : 1 + (m : Int) = (pa : Int) := by omega
      have eb : 5 + (m : Int) = (pb : Int) := by omega
      have hml : (m : Int) ≤ 16 := by omega
      have hcut := run_cut s pa pb (by omega) (by have := H17.out; omega)
      have hpab : pb = pa + 4 := by omega
      have hv : val (nums (s.extract pa pb)) = hdN s pa := by rw [hpab]; exact cut_val s pa
      have kV := fun w => hide1 (value_any (s.extract pa pb) w (by rw [size_nums, nums_extract, List.length_drop, List.length_take]; omega))
      rw [hv] at kV
      have hx := hdN_lt s pa
      have HN : Shy (nl s (j + 1) = nl s j ++ [hdN s pa]) := ⟨by rw [hpa]; exact nl_step s j⟩
      generalize hdN s pa = x at *
      generalize s.extract pa pb = cut at *
      have e22 : IntKind.u32.wrap (x : Int) = (x : Int) := by rw [IntKind.wrap_u32]; omega
      have e22' : (x : Int) % 4294967296 = (x : Int) := by omega
      have HW := hide1 (And.intro hrow hB)
      clear hpa hpb hm hpab hv hx hrow hB
      go_wp2_with (first
        | (go_at_call 103; refine (kV _).out.mono ?_; rintro e w1 ⟨rfl, hw1⟩; cases hw1)
        | (at_builtin; go_must (refine wpList_append_own _ rfl _ _ 125 rfl w.heap.size 22 i0 (.int .u32 0) 1 4 Tryz.underlying125 hi hz0 hz1 hz2 rfl (by decide) _ _ _ rfl (HW.out.1.alloc _) ⟨wr.heap.size, 0, none⟩ 1 1 [.int .u32 (x : Int)] rfl rfl (cell_one_new _ _ _) (by simp [Value.oneCell']) (by unfold maxLen; omega) (by omega) (by have := HW.out.2.size; simp; omega) ?_); intro v' w1 hown' hgrow _))
      go_roundw
      case rel =>
        refine ⟨j + 1, by omega, by go_num, ?_, (HW.out.2.alloc (by have := HW.out.2.size; omega) _).grown hgrow (by have := HW.out.2.size; simp; omega) (fun b hb => (HW.out.1.lt b hb).1)⟩
        rw [HN.out]
        simpa [u32s] using hown'
      case measure => simp [intOf]; omega
    · obtain rfl : j = 4 := by omega
      have HW := hide1 (And.intro hrow hB)
      clear hrow hB
      go_wp2
      go_ret
      exact ⟨_, rfl, HW.out.1, HW.out.2⟩
end Go.Proofs.YtcadlcpccemkbaaGreatDoor.X

namespace Go.Proofs.YtcadlcpccemkbaaGreatDoor.X
open Go.RowKit
set_option maxRecDepth 100000
attribute [local go_sem] not_any mf_any

theorem ret_r2 {fn : Func} {p u : Tmp} (h : fn.results = #[.cell p 42, .tmp u]) {R : Ending → World → Prop} {a : Act} {w : World} (g : Nat) (x y z s t r v : Value) (hp : a.tmps.getD p undef = .pointer (some ⟨g, 0, none⟩))
    (hu : a.tmps.getD u undef = v) (hg : w.heap[g]? = some (.cells #[x, y, z, s, t, r] 42 (0, 0))) (hd : a.defers = []) (hR : R (.returned (.tuple #[.agg #[x, y, z, s, t, r], v])) w) : bodyPost Tryz.prog fn R .ret a w := by
  refine bodyPost_ret_by (v := .tuple #[.agg #[x, y, z, s, t, r], v]) ?_ hd hR
  have hl := run_loadVar_row (P := Tryz.prog) w g 42 42 #[x, y, z, s, t, r] (0, 0) _ hg Tryz.underlying42 rfl (by kernel_rfl)
  rw [results_cell_tmp h, hp, hu]
  simp [asAddr, hl, Result.andThen]

theorem rdecode_short (s : ByteArray) (w : World) (h17 : s.size < 17) :
    Calls Tryz.prog 59 #[.string s] w fun e w' => e = .returned (.tuple #[fra 0 0 0 0 0 ⟨#[]⟩, .int .i64 12]) ∧ Below w.heap.size w w' := by
  have mx := mixed
  have hd : decide (s.size < 17) = true := decide_eq_true h17
  unfold fra
  go_enter Tryz.func59, Tryz.ntmps59
  go_wp2
  refine ret_r2 Tryz.results59 w.heap.size _ _ _ _ _ _ _ rfl rfl (heap_alloc_new _ _) rfl ⟨rfl, below1 _⟩

/- the four numbers in memory -/
def At4 (g : Nat) (x y z u : Value) (W : World) : Prop := W.cell? ⟨g, 0, none⟩ = some x ∧ W.cell? ⟨g, 1, none⟩ = some y ∧ W.cell? ⟨g, 2, none⟩ = some z ∧ W.cell? ⟨g, 3, none⟩ = some u ∧ g < W.heap.size
theorem At4.below {g : Nat} {x y z u : Value} {W W' : World} (h : At4 g x y z u W) (hb : Below W.heap.size W W') : At4 g x y z u W' := by
  obtain ⟨h0, h1, h2, h3, hl⟩ := h
  exact ⟨(hb.cell (p := ⟨g, 0, none⟩) hl).trans h0, (hb.cell (p := ⟨g, 1, none⟩) hl).trans h1, (hb.cell (p := ⟨g, 2, none⟩) hl).trans h2, (hb.cell (p := ⟨g, 3, none⟩) hl).trans h3, Nat.lt_of_lt_of_le hl hb.size⟩
theorem At4.row {g b : Nat} {x y z u : Value} {W : World} (h : At4 g x y z u W) (hne : g ≠ b) (cs : Array Value) : At4 g x y z u (W.setRow b cs) := by
  have e : ∀ k, (W.setRow b cs).cell? ⟨g, k, none⟩ = W.cell? ⟨g, k, none⟩ := fun k => cell_setRow_other W b cs ⟨g, k, none⟩ hne
  obtain ⟨h0, h1, h2, h3, hl⟩ := h
  exact ⟨(e 0).trans h0, (e 1).trans h1, (e 2).trans h2, (e 3).trans h3, by simpa using hl⟩
theorem nl_held {base o p q a : Nat} {w : World} {v : Value} (h : w.ownsRow base 22 1 v 4 (u32s [o, p, q, a])) : ∃ g cap, v = .slice (some ⟨g, 0, none⟩) 4 cap ∧ At4 g (.int .u32 (o : Int)) (.int .u32 (p : Int)) (.int .u32 (q : Int)) (.int .u32 (a : Int)) w := by
  obtain ⟨h1, ⟨rfl, hn0⟩ | ⟨g, cap, cur, rfl, _⟩⟩ := id h
  · cases hn0
  · have hc := h.cells (g := g) rfl
    have c0 := hc 0 _ rfl
    have c1 := hc 1 _ rfl
    have c2 := hc 2 _ rfl
    have c3 := hc 3 _ rfl
    rw [Addr.add_lit, Nat.zero_add] at c0 c1 c2 c3
    exact ⟨g, cap, rfl, c0, c1, c2, c3, block_lt_of_cell c0⟩
theorem run_first (s : ByteArray) (h : 17 ≤ s.size) (w : World) : (Instr.index 9 (.string s) (.int .i64 0)).run Tryz.prog w = .ok (.int .u8 (hdK s : Nat)) w := by
  have := Tryz.underlying9
  have hlt : 0 < s.size := by omega
  have hx := nums_at hlt
  have e : hdK s = (s[0]'hlt).toNat := by
    obtain ⟨x, l, hl⟩ : ∃ x l, nums s = x :: l := by
      match hn : nums s with
      | [] => rw [hn] at hx; simp at hx
      | x :: l => exact ⟨x, l, rfl⟩
    rw [hl] at hx
    simp at hx
    rw [hdK, hl]
    simp [val, hx]
  rw [e]
  go_simp

set_option maxHeartbeats 2000000 in
theorem rdecode_bad (s : ByteArray) (w : World) (hs : s.size ≤ 66000) (h17 : 17 ≤ s.size) (hc : decC s ≠ 0) :
    Calls Tryz.prog 59 #[.string s] w fun e w' => e = .returned (.tuple #[fra 0 0 0 0 0 ⟨#[]⟩, .int .i64 (decC s)]) ∧ Below w.heap.size w w' := by
  have mx := mixed
  have hd : decide (s.size < 17) = false := decide_eq_false (by omega)
  have hd2 : ¬ s.size < 17 := by omega
  have kN := fun w => hide1 (numbers_any s w h17 hs)
  have mB := body_size s
  have kC := fun w => hide1 (rcheck_any (hdK s) (hdN s 1) (hdN s 5) (hdN s 9) (hdN s 13) (s.extract 17 s.size) w)
  rw [mB] at kC
  change ∀ w, Hid (Calls Tryz.prog 57 #[fra (hdK s) (hdN s 1) (hdN s 5) (hdN s 9) (hdN s 13) (s.extract 17 s.size)] w fun e w' => e = .returned (.int .i64 (decC s)) ∧ Below w.heap.size w w') at kC
  have hcut : ∀ w, (Instr.slice 9 (.string s) (some (.int .i64 17)) none none).run Tryz.prog w = .ok (.string (s.extract 17 s.size)) w := fun w => run_from s 17 h17 w
  have hix := run_first s h17
  have HK : Shy (hdK s < 256) := ⟨hdK_lt s⟩
  rw [nl_four] at kN
  have hcb : (decC s != 0) = true := by simpa using hc
  generalize decC s = C at *
  have HCUT := hide1 hcut
  have HIX := hide1 hix
  clear hs mB hcut hix hc
  obtain ⟨BD, hBD⟩ : ∃ x, s.extract 17 s.size = x := ⟨_, rfl⟩
  rw [hBD] at kC HCUT
  try rw [hBD]
  obtain ⟨K, hK⟩ : ∃ x, hdK s = x := ⟨_, rfl⟩
  rw [hK] at kC HIX HK
  try rw [hK]
  obtain ⟨O, hO⟩ : ∃ x, hdN s 1 = x := ⟨_, rfl⟩
  rw [hO] at kC kN
  try rw [hO]
  obtain ⟨P, hP⟩ : ∃ x, hdN s 5 = x := ⟨_, rfl⟩
  rw [hP] at kC kN
  try rw [hP]
  obtain ⟨Q, hQ⟩ : ∃ x, hdN s 9 = x := ⟨_, rfl⟩
  rw [hQ] at kC kN
  try rw [hQ]
  obtain ⟨A, hA⟩ : ∃ x, hdN s 13 = x := ⟨_, rfl⟩
  rw [hA] at kC kN
  try rw [hA]
  have e64 : IntKind.i64.wrap (K : Int) = (K : Int) := by have := HK.out; rw [IntKind.wrap_i64]; omega
  clear hBD hK hO hP hQ hA h17
  unfold fra at *
  go_enter Tryz.func59, Tryz.ntmps59
  go_upto_region 1 with (fail)
  generalize hX : World.alloc w _ = X
  have HX : Hid (Below w.heap.size w X) := by rw [← hX]; exact below1 _
  have A0 := hide1 (hX ▸ heap_alloc_new w _)
  obtain ⟨b2, hb2⟩ : ∃ b, w.heap.size = b := ⟨_, rfl⟩
  have HB2 : Shy (w.heap.size = b2) := ⟨hb2⟩
  rw [hb2] at A0 ⊢
  clear hX hb2
  go_wp2_with fail
  refine (kN _).out.mono ?_
  rintro e w1 ⟨v, rfl, hrow, hb1⟩
  obtain ⟨g, cap, rfl, hat⟩ := nl_held hrow
  have HG : Shy (g < w1.heap.size) := ⟨hat.2.2.2.2⟩
  have HAT := hide1 hat
  have A1 := hide1 ((hb1.block b2 (lt_heap A0.out)).trans A0.out)
  have B1 := hide1 (HX.out.trans (hb1.mono HX.out.size))
  clear hrow hat hb1 A0 HX kN
  go_upto_region 4 with (fail)
  have hcut := HCUT.out
  have hix := HIX.out
  refine region_f (F := []) (S := At4 g (.int .u32 (O : Int)) (.int .u32 (P : Int)) (.int .u32 (Q : Int)) (.int .u32 (A : Int))) (by kernel_rfl) HAT.out (fun hS => ?_)
  refine take_p 0 12 (.string s) rfl rfl (by kernel_rfl) (by kernel_rfl) (by kernel_rfl) (fun _ _ _ h => h) rfl (fun w => by go_simp) ?_
  try simp only [List.setIfInBounds_toArray, List.set_cons_zero, List.set_cons_succ]
  refine take_p 1 13 (.int .u8 (K : Int)) rfl rfl (by kernel_rfl) (by kernel_rfl) (by kernel_rfl) (fun _ _ _ h => h) rfl (fun w => by go_simp) ?_
  try simp only [List.setIfInBounds_toArray, List.set_cons_zero, List.set_cons_succ]
  refine take_p 2 14 (.int .i64 (K : Int)) rfl rfl (by kernel_rfl) (by kernel_rfl) (by kernel_rfl) (fun _ _ _ h => h) rfl (fun w => by go_simp) ?_
  try simp only [List.setIfInBounds_toArray, List.set_cons_zero, List.set_cons_succ]
  refine take_p 3 15 (.slice (some ⟨g, 0, none⟩) 4 cap) rfl rfl (by kernel_rfl) (by kernel_rfl) (by kernel_rfl) (fun _ _ _ h => h) rfl (fun w => by go_simp) ?_
  try simp only [List.setIfInBounds_toArray, List.set_cons_zero, List.set_cons_succ]
  refine take_p 4 16 (.pointer (some ⟨g, 0, none⟩)) rfl rfl (by kernel_rfl) (by kernel_rfl) (by kernel_rfl) (fun _ _ _ h => h) rfl (fun w => by go_simp) ?_
  try simp only [List.setIfInBounds_toArray, List.set_cons_zero, List.set_cons_succ]
  refine take_f 5 17 (.int .u32 (O : Int)) [17, 19] rfl rfl (by kernel_rfl) (by kernel_rfl) (by kernel_rfl) (by kernel_rfl) (by kernel_rfl) (by kernel_rfl) (fun _ _ _ h => h) rfl (fun w hSw => by obtain ⟨g0, g1, g2, g3, g4⟩ := hSw; go_simp) hS ?_
  try simp only [List.setIfInBounds_toArray, List.set_cons_zero, List.set_cons_succ]
  refine take_p 6 18 (.slice (some ⟨g, 0, none⟩) 4 cap) rfl rfl (by kernel_rfl) (by kernel_rfl) (by kernel_rfl) (fun _ _ _ h => h) rfl (fun w => by go_simp) ?_
  try simp only [List.setIfInBounds_toArray, List.set_cons_zero, List.set_cons_succ]
  refine take_p 7 19 (.pointer (some ⟨g, 1, none⟩)) rfl rfl (by kernel_rfl) (by kernel_rfl) (by kernel_rfl) (fun _ _ _ h => h) rfl (fun w => by go_simp) ?_
  try simp only [List.setIfInBounds_toArray, List.set_cons_zero, List.set_cons_succ]
  refine take_f 8 20 (.int .u32 (P : Int)) [17, 19] rfl rfl (by kernel_rfl) (by kernel_rfl) (by kernel_rfl) (by kernel_rfl) (by kernel_rfl) (by kernel_rfl) (fun _ _ _ h => h) rfl (fun w hSw => by obtain ⟨g0, g1, g2, g3, g4⟩ := hSw; go_simp) hS ?_
  try simp only [List.setIfInBounds_toArray, List.set_cons_zero, List.set_cons_succ]
  refine take_p 9 21 (.slice (some ⟨g, 0, none⟩) 4 cap) rfl rfl (by kernel_rfl) (by kernel_rfl) (by kernel_rfl) (fun _ _ _ h => h) rfl (fun w => by go_simp) ?_
  try simp only [List.setIfInBounds_toArray, List.set_cons_zero, List.set_cons_succ]
  refine take_p 10 22 (.pointer (some ⟨g, 2, none⟩)) rfl rfl (by kernel_rfl) (by kernel_rfl) (by kernel_rfl) (fun _ _ _ h => h) rfl (fun w => by go_simp) ?_
  try simp only [List.setIfInBounds_toArray, List.set_cons_zero, List.set_cons_succ]
  refine take_f 11 23 (.int .u32 (Q : Int)) [17, 19] rfl rfl (by kernel_rfl) (by kernel_rfl) (by kernel_rfl) (by kernel_rfl) (by kernel_rfl) (by kernel_rfl) (fun _ _ _ h => h) rfl (fun w hSw => by obtain ⟨g0, g1, g2, g3, g4⟩ := hSw; go_simp) hS ?_
  try simp only [List.setIfInBounds_toArray, List.set_cons_zero, List.set_cons_succ]
  refine take_p 12 24 (.slice (some ⟨g, 0, none⟩) 4 cap) rfl rfl (by kernel_rfl) (by kernel_rfl) (by kernel_rfl) (fun _ _ _ h => h) rfl (fun w => by go_simp) ?_
  try simp only [List.setIfInBounds_toArray, List.set_cons_zero, List.set_cons_succ]
  refine take_p 13 25 (.pointer (some ⟨g, 3, none⟩)) rfl rfl (by kernel_rfl) (by kernel_rfl) (by kernel_rfl) (fun _ _ _ h => h) rfl (fun w => by go_simp) ?_
  try simp only [List.setIfInBounds_toArray, List.set_cons_zero, List.set_cons_succ]
  refine take_f 14 26 (.int .u32 (A : Int)) [17, 19] rfl rfl (by kernel_rfl) (by kernel_rfl) (by kernel_rfl) (by kernel_rfl) (by kernel_rfl) (by kernel_rfl) (fun _ _ _ h => h) rfl (fun w hSw => by obtain ⟨g0, g1, g2, g3, g4⟩ := hSw; go_simp) hS ?_
  try simp only [List.setIfInBounds_toArray, List.set_cons_zero, List.set_cons_succ]
  refine take_p 15 27 (.string s) rfl rfl (by kernel_rfl) (by kernel_rfl) (by kernel_rfl) (fun _ _ _ h => h) rfl (fun w => by go_simp) ?_
  try simp only [List.setIfInBounds_toArray, List.set_cons_zero, List.set_cons_succ]
  refine take_p 16 28 (.string BD) rfl rfl (by kernel_rfl) (by kernel_rfl) (by kernel_rfl) (fun _ _ _ h => h) rfl (fun w => by go_simp) ?_
  try simp only [List.setIfInBounds_toArray, List.set_cons_zero, List.set_cons_succ]
  refine take_p 17 29 (.agg #[.int .i64 (K : Int), .int .u32 (O : Int), .int .u32 (P : Int), .int .u32 (Q : Int), .int .u32 (A : Int), .string BD]) rfl rfl (by kernel_rfl) (by kernel_rfl) (by kernel_rfl) (fun _ _ _ h => h) rfl (fun w => by go_simp) ?_
  try simp only [List.setIfInBounds_toArray, List.set_cons_zero, List.set_cons_succ]
  refine ready_f 18 (o := { dst := some 5, op := Op.alloc 42, type := 0, pos := "ref.go:66", after := #[], guard := none }) (by kernel_rfl) rfl (fun KK hK => ?_)
  go_simp
  refine hK.out _ _ (fun _ h => h.below (below1 _)) ?_
  clear hK KK
  try simp only [Act.put, List.setIfInBounds_toArray, List.set_cons_zero, List.set_cons_succ]
  refine ready_f 19 (o := { dst := none, op := Op.store 42 (Operand.tmp 5) (Operand.tmp 29), type := 0, pos := "ref.go:66", after := #[{ on := 18, ground := Ground.data }, { on := 17, ground := Ground.data }, { on := 0, ground := Ground.phase }, { on := 1, ground := Ground.phase }, { on := 2, ground := Ground.phase }, { on := 3, ground := Ground.phase }, { on := 4, ground := Ground.phase }, { on := 5, ground := Ground.phase }, { on := 6, ground := Ground.phase }, { on := 7, ground := Ground.phase }, { on := 8, ground := Ground.phase }, { on := 9, ground := Ground.phase }, { on := 10, ground := Ground.phase }, { on := 11, ground := Ground.phase }, { on := 12, ground := Ground.phase }, { on := 13, ground := Ground.phase }, { on := 14, ground := Ground.phase }, { on := 15, ground := Ground.phase }, { on := 16, ground := Ground.phase }, { on := 17, ground := Ground.phase }, { on := 18, ground := Ground.phase }], guard := none }) (by kernel_rfl) rfl (fun KK hK => ?_)
  rw [if_pos (by rfl)]
  refine wp_store_row 42 _ _ rfl w1.heap.size #[.int .i64 (K : Int), .int .u32 (O : Int), .int .u32 (P : Int), .int .u32 (Q : Int), .int .u32 (A : Int), .string BD] rfl rfl 42 #[.int .i64 0, .int .u32 0, .int .u32 0, .int .u32 0, .int .u32 0, .string ⟨#[]⟩] (heap_alloc_new w1.drew _) (by kernel_rfl) rfl (by kernel_rfl) ?_
  refine hK.out _ _ (fun _ h => h.row (by have := HG.out; omega) _) ?_
  clear hK KK
  refine done_f (by kernel_rfl) ?_ _
  clear hS hcut hix HAT
  generalize hU : World.setRow _ _ _ = U
  have F5 : Hid (U.heap[w1.heap.size]? = some (.cells #[.int .i64 (K : Int), .int .u32 (O : Int), .int .u32 (P : Int), .int .u32 (Q : Int), .int .u32 (A : Int), .string BD] 42 (0, 0))) := by rw [← hU]; exact setRow_heap _ _ _ _ _ _ (heap_alloc_new w1.drew _)
  have LB := lt_heap A1.out
  have A5 : Hid (U.heap[b2]? = some (.cells #[.int .i64 0, .int .u32 0, .int .u32 0, .int .u32 0, .int .u32 0, .string ⟨#[]⟩] 42 (0, 0))) := by rw [← hU]; exact (setRow_other _ _ b2 _ (by omega)).trans ((Below.heap_alloc w1.drew _ _ LB).trans A1.out)
  have B5 : Hid (Below w.heap.size w U) := by rw [← hU]; exact below_setRow (B1.out.drew.alloc B1.out.size _) B1.out.size _
  obtain ⟨b5, hb5⟩ : ∃ b, w1.heap.size = b := ⟨_, rfl⟩
  rw [hb5] at F5 ⊢
  have HB5 : Shy (b2 < b5) := ⟨by omega⟩
  clear hU hb5 A1 B1 LB HG
  obtain ⟨d0, d1, d2, d3, d4, d5, lb⟩ := box6 F5.out
  go_wp2_with fail
  refine (kC _).out.mono ?_
  rintro e w6 ⟨rfl, hb6⟩
  have A6 := hide1 ((hb6.block b2 (lt_heap A5.out)).trans A5.out)
  have F6 := hide1 ((hb6.block b5 lb).trans F5.out)
  have B6 := hide1 (B5.out.trans (hb6.mono B5.out.size))
  clear hb6 A5 F5 B5 d0 d1 d2 d3 d4 d5 lb
  obtain ⟨d0, d1, d2, d3, d4, d5, lb⟩ := box6 F6.out
  go_wp2_with fail
  refine (kC _).out.mono ?_
  rintro e w7 ⟨rfl, hb7⟩
  have A7 := hide1 ((hb7.block b2 (lt_heap A6.out)).trans A6.out)
  have B7 := hide1 (B6.out.trans (hb7.mono B6.out.size))
  clear hb7 A6 F6 B6 d0 d1 d2 d3 d4 d5 lb
  go_wp2_with (refine wpList_store_row rfl 42 (.tmp 2) (.tmp 33) rfl b2 #[.int .i64 0, .int .u32 0, .int .u32 0, .int .u32 0, .int .u32 0, .string ⟨#[]⟩] rfl rfl 42 _ A7.out rfl (by kernel_rfl) (by kernel_rfl) ?_)
  exact ret_r2 Tryz.results59 b2 _ _ _ _ _ _ _ rfl rfl (setRow_heap w7 b2 _ _ _ _ A7.out) rfl ⟨rfl, below_setRow B7.out (by have := HB2.out; omega) _⟩

set_option maxHeartbeats 2000000 in
theorem rdecode_ok (s : ByteArray) (w : World) (hs : s.size ≤ 66000) (h17 : 17 ≤ s.size) (hc : decC s = 0) :
    Calls Tryz.prog 59 #[.string s] w fun e w' => e = .returned (.tuple #[fra (hdK s) (hdN s 1) (hdN s 5) (hdN s 9) (hdN s 13) (s.extract 17 s.size), .int .i64 0]) ∧ Below w.heap.size w w' := by
  have mx := mixed
  have hd : decide (s.size < 17) = false := decide_eq_false (by omega)
  have hd2 : ¬ s.size < 17 := by omega
  have kN := fun w => hide1 (numbers_any s w h17 hs)
  have mB := body_size s
  have kC := fun w => hide1 (rcheck_any (hdK s) (hdN s 1) (hdN s 5) (hdN s 9) (hdN s 13) (s.extract 17 s.size) w)
  rw [mB] at kC
  change ∀ w, Hid (Calls Tryz.prog 57 #[fra (hdK s) (hdN s 1) (hdN s 5) (hdN s 9) (hdN s 13) (s.extract 17 s.size)] w fun e w' => e = .returned (.int .i64 (decC s)) ∧ Below w.heap.size w w') at kC
  have hcut : ∀ w, (Instr.slice 9 (.string s) (some (.int .i64 17)) none none).run Tryz.prog w = .ok (.string (s.extract 17 s.size)) w := fun w => run_from s 17 h17 w
  have hix := run_first s h17
  have HK : Shy (hdK s < 256) := ⟨hdK_lt s⟩
  rw [nl_four] at kN
  rw [hc] at kC
  have HCUT := hide1 hcut
  have HIX := hide1 hix
  clear hs mB hcut hix hc
  obtain ⟨BD, hBD⟩ : ∃ x, s.extract 17 s.size = x := ⟨_, rfl⟩
  rw [hBD] at kC HCUT
  try rw [hBD]
  obtain ⟨K, hK⟩ : ∃ x, hdK s = x := ⟨_, rfl⟩
  rw [hK] at kC HIX HK
  try rw [hK]
  obtain ⟨O, hO⟩ : ∃ x, hdN s 1 = x := ⟨_, rfl⟩
  rw [hO] at kC kN
  try rw [hO]
  obtain ⟨P, hP⟩ : ∃ x, hdN s 5 = x := ⟨_, rfl⟩
  rw [hP] at kC kN
  try rw [hP]
  obtain ⟨Q, hQ⟩ : ∃ x, hdN s 9 = x := ⟨_, rfl⟩
  rw [hQ] at kC kN
  try rw [hQ]
  obtain ⟨A, hA⟩ : ∃ x, hdN s 13 = x := ⟨_, rfl⟩
  rw [hA] at kC kN
  try rw [hA]
  have e64 : IntKind.i64.wrap (K : Int) = (K : Int) := by have := HK.out; rw [IntKind.wrap_i64]; omega
  clear hBD hK hO hP hQ hA h17
  unfold fra at *
  go_enter Tryz.func59, Tryz.ntmps59
  go_upto_region 1 with (fail)
  generalize hX : World.alloc w _ = X
  have HX : Hid (Below w.heap.size w X) := by rw [← hX]; exact below1 _
  have A0 := hide1 (hX ▸ heap_alloc_new w _)
  obtain ⟨b2, hb2⟩ : ∃ b, w.heap.size = b := ⟨_, rfl⟩
  have HB2 : Shy (w.heap.size = b2) := ⟨hb2⟩
  rw [hb2] at A0 ⊢
  clear hX hb2
  go_wp2_with fail
  refine (kN _).out.mono ?_
  rintro e w1 ⟨v, rfl, hrow, hb1⟩
  obtain ⟨g, cap, rfl, hat⟩ := nl_held hrow
  have HG : Shy (g < w1.heap.size) := ⟨hat.2.2.2.2⟩
  have HAT := hide1 hat
  have A1 := hide1 ((hb1.block b2 (lt_heap A0.out)).trans A0.out)
  have B1 := hide1 (HX.out.trans (hb1.mono HX.out.size))
  clear hrow hat hb1 A0 HX kN
  go_upto_region 4 with (fail)
  have hcut := HCUT.out
  have hix := HIX.out
  refine region_f (F := []) (S := At4 g (.int .u32 (O : Int)) (.int .u32 (P : Int)) (.int .u32 (Q : Int)) (.int .u32 (A : Int))) (by kernel_rfl) HAT.out (fun hS => ?_)
  refine take_p 0 12 (.string s) rfl rfl (by kernel_rfl) (by kernel_rfl) (by kernel_rfl) (fun _ _ _ h => h) rfl (fun w => by go_simp) ?_
  try simp only [List.setIfInBounds_toArray, List.set_cons_zero, List.set_cons_succ]
  refine take_p 1 13 (.int .u8 (K : Int)) rfl rfl (by kernel_rfl) (by kernel_rfl) (by kernel_rfl) (fun _ _ _ h => h) rfl (fun w => by go_simp) ?_
  try simp only [List.setIfInBounds_toArray, List.set_cons_zero, List.set_cons_succ]
  refine take_p 2 14 (.int .i64 (K : Int)) rfl rfl (by kernel_rfl) (by kernel_rfl) (by kernel_rfl) (fun _ _ _ h => h) rfl (fun w => by go_simp) ?_
  try simp only [List.setIfInBounds_toArray, List.set_cons_zero, List.set_cons_succ]
  refine take_p 3 15 (.slice (some ⟨g, 0, none⟩) 4 cap) rfl rfl (by kernel_rfl) (by kernel_rfl) (by kernel_rfl) (fun _ _ _ h => h) rfl (fun w => by go_simp) ?_
  try simp only [List.setIfInBounds_toArray, List.set_cons_zero, List.set_cons_succ]
  refine take_p 4 16 (.pointer (some ⟨g, 0, none⟩)) rfl rfl (by kernel_rfl) (by kernel_rfl) (by kernel_rfl) (fun _ _ _ h => h) rfl (fun w => by go_simp) ?_
  try simp only [List.setIfInBounds_toArray, List.set_cons_zero, List.set_cons_succ]
  refine take_f 5 17 (.int .u32 (O : Int)) [17, 19] rfl rfl (by kernel_rfl) (by kernel_rfl) (by kernel_rfl) (by kernel_rfl) (by kernel_rfl) (by kernel_rfl) (fun _ _ _ h => h) rfl (fun w hSw => by obtain ⟨g0, g1, g2, g3, g4⟩ := hSw; go_simp) hS ?_
  try simp only [List.setIfInBounds_toArray, List.set_cons_zero, List.set_cons_succ]
  refine take_p 6 18 (.slice (some ⟨g, 0, none⟩) 4 cap) rfl rfl (by kernel_rfl) (by kernel_rfl) (by kernel_rfl) (fun _ _ _ h => h) rfl (fun w => by go_simp) ?_
  try simp only [List.setIfInBounds_toArray, List.set_cons_zero, List.set_cons_succ]
  refine take_p 7 19 (.pointer (some ⟨g, 1, none⟩)) rfl rfl (by kernel_rfl) (by kernel_rfl) (by kernel_rfl) (fun _ _ _ h => h) rfl (fun w => by go_simp) ?_
  try simp only [List.setIfInBounds_toArray, List.set_cons_zero, List.set_cons_succ]
  refine take_f 8 20 (.int .u32 (P : Int)) [17, 19] rfl rfl (by kernel_rfl) (by kernel_rfl) (by kernel_rfl) (by kernel_rfl) (by kernel_rfl) (by kernel_rfl) (fun _ _ _ h => h) rfl (fun w hSw => by obtain ⟨g0, g1, g2, g3, g4⟩ := hSw; go_simp) hS ?_
  try simp only [List.setIfInBounds_toArray, List.set_cons_zero, List.set_cons_succ]
  refine take_p 9 21 (.slice (some ⟨g, 0, none⟩) 4 cap) rfl rfl (by kernel_rfl) (by kernel_rfl) (by kernel_rfl) (fun _ _ _ h => h) rfl (fun w => by go_simp) ?_
  try simp only [List.setIfInBounds_toArray, List.set_cons_zero, List.set_cons_succ]
  refine take_p 10 22 (.pointer (some ⟨g, 2, none⟩)) rfl rfl (by kernel_rfl) (by kernel_rfl) (by kernel_rfl) (fun _ _ _ h => h) rfl (fun w => by go_simp) ?_
  try simp only [List.setIfInBounds_toArray, List.set_cons_zero, List.set_cons_succ]
  refine take_f 11 23 (.int .u32 (Q : Int)) [17, 19] rfl rfl (by kernel_rfl) (by kernel_rfl) (by kernel_rfl) (by kernel_rfl) (by kernel_rfl) (by kernel_rfl) (fun _ _ _ h => h) rfl (fun w hSw => by obtain ⟨g0, g1, g2, g3, g4⟩ := hSw; go_simp) hS ?_
  try simp only [List.setIfInBounds_toArray, List.set_cons_zero, List.set_cons_succ]
  refine take_p 12 24 (.slice (some ⟨g, 0, none⟩) 4 cap) rfl rfl (by kernel_rfl) (by kernel_rfl) (by kernel_rfl) (fun _ _ _ h => h) rfl (fun w => by go_simp) ?_
  try simp only [List.setIfInBounds_toArray, List.set_cons_zero, List.set_cons_succ]
  refine take_p 13 25 (.pointer (some ⟨g, 3, none⟩)) rfl rfl (by kernel_rfl) (by kernel_rfl) (by kernel_rfl) (fun _ _ _ h => h) rfl (fun w => by go_simp) ?_
  try simp only [List.setIfInBounds_toArray, List.set_cons_zero, List.set_cons_succ]
  refine take_f 14 26 (.int .u32 (A : Int)) [17, 19] rfl rfl (by kernel_rfl) (by kernel_rfl) (by kernel_rfl) (by kernel_rfl) (by kernel_rfl) (by kernel_rfl) (fun _ _ _ h => h) rfl (fun w hSw => by obtain ⟨g0, g1, g2, g3, g4⟩ := hSw; go_simp) hS ?_
  try simp only [List.setIfInBounds_toArray, List.set_cons_zero, List.set_cons_succ]
  refine take_p 15 27 (.string s) rfl rfl (by kernel_rfl) (by kernel_rfl) (by kernel_rfl) (fun _ _ _ h => h) rfl (fun w => by go_simp) ?_
  try simp only [List.setIfInBounds_toArray, List.set_cons_zero, List.set_cons_succ]
  refine take_p 16 28 (.string BD) rfl rfl (by kernel_rfl) (by kernel_rfl) (by kernel_rfl) (fun _ _ _ h => h) rfl (fun w => by go_simp) ?_
  try simp only [List.setIfInBounds_toArray, List.set_cons_zero, List.set_cons_succ]
  refine take_p 17 29 (.agg #[.int .i64 (K : Int), .int .u32 (O : Int), .int .u32 (P : Int), .int .u32 (Q : Int), .int .u32 (A : Int), .string BD]) rfl rfl (by kernel_rfl) (by kernel_rfl) (by kernel_rfl) (fun _ _ _ h => h) rfl (fun w => by go_simp) ?_
  try simp only [List.setIfInBounds_toArray, List.set_cons_zero, List.set_cons_succ]
  refine ready_f 18 (o := { dst := some 5, op := Op.alloc 42, type := 0, pos := "ref.go:66", after := #[], guard := none }) (by kernel_rfl) rfl (fun KK hK => ?_)
  go_simp
  refine hK.out _ _ (fun _ h => h.below (below1 _)) ?_
  clear hK KK
  try simp only [Act.put, List.setIfInBounds_toArray, List.set_cons_zero, List.set_cons_succ]
  refine ready_f 19 (o := { dst := none, op := Op.store 42 (Operand.tmp 5) (Operand.tmp 29), type := 0, pos := "ref.go:66", after := #[{ on := 18, ground := Ground.data }, { on := 17, ground := Ground.data }, { on := 0, ground := Ground.phase }, { on := 1, ground := Ground.phase }, { on := 2, ground := Ground.phase }, { on := 3, ground := Ground.phase }, { on := 4, ground := Ground.phase }, { on := 5, ground := Ground.phase }, { on := 6, ground := Ground.phase }, { on := 7, ground := Ground.phase }, { on := 8, ground := Ground.phase }, { on := 9, ground := Ground.phase }, { on := 10, ground := Ground.phase }, { on := 11, ground := Ground.phase }, { on := 12, ground := Ground.phase }, { on := 13, ground := Ground.phase }, { on := 14, ground := Ground.phase }, { on := 15, ground := Ground.phase }, { on := 16, ground := Ground.phase }, { on := 17, ground := Ground.phase }, { on := 18, ground := Ground.phase }], guard := none }) (by kernel_rfl) rfl (fun KK hK => ?_)
  rw [if_pos (by rfl)]
  refine wp_store_row 42 _ _ rfl w1.heap.size #[.int .i64 (K : Int), .int .u32 (O : Int), .int .u32 (P : Int), .int .u32 (Q : Int), .int .u32 (A : Int), .string BD] rfl rfl 42 #[.int .i64 0, .int .u32 0, .int .u32 0, .int .u32 0, .int .u32 0, .string ⟨#[]⟩] (heap_alloc_new w1.drew _) (by kernel_rfl) rfl (by kernel_rfl) ?_
  refine hK.out _ _ (fun _ h => h.row (by have := HG.out; omega) _) ?_
  clear hK KK
  refine done_f (by kernel_rfl) ?_ _
  clear hS hcut hix HAT
  generalize hU : World.setRow _ _ _ = U
  have F5 : Hid (U.heap[w1.heap.size]? = some (.cells #[.int .i64 (K : Int), .int .u32 (O : Int), .int .u32 (P : Int), .int .u32 (Q : Int), .int .u32 (A : Int), .string BD] 42 (0, 0))) := by rw [← hU]; exact setRow_heap _ _ _ _ _ _ (heap_alloc_new w1.drew _)
  have LB := lt_heap A1.out
  have A5 : Hid (U.heap[b2]? = some (.cells #[.int .i64 0, .int .u32 0, .int .u32 0, .int .u32 0, .int .u32 0, .string ⟨#[]⟩] 42 (0, 0))) := by rw [← hU]; exact (setRow_other _ _ b2 _ (by omega)).trans ((Below.heap_alloc w1.drew _ _ LB).trans A1.out)
  have B5 : Hid (Below w.heap.size w U) := by rw [← hU]; exact below_setRow (B1.out.drew.alloc B1.out.size _) B1.out.size _
  obtain ⟨b5, hb5⟩ : ∃ b, w1.heap.size = b := ⟨_, rfl⟩
  rw [hb5] at F5 ⊢
  have HB5 : Shy (b2 < b5) := ⟨by omega⟩
  clear hU hb5 A1 B1 LB HG
  obtain ⟨d0, d1, d2, d3, d4, d5, lb⟩ := box6 F5.out
  go_wp2_with fail
  refine (kC _).out.mono ?_
  rintro e w6 ⟨rfl, hb6⟩
  have A6 := hide1 ((hb6.block b2 (lt_heap A5.out)).trans A5.out)
  have F6 := hide1 ((hb6.block b5 lb).trans F5.out)
  have B6 := hide1 (B5.out.trans (hb6.mono B5.out.size))
  clear hb6 A5 F5 B5 d0 d1 d2 d3 d4 d5 lb
  obtain ⟨d0, d1, d2, d3, d4, d5, lb⟩ := box6 F6.out
  go_wp2_with (refine wpList_store_row rfl 42 (.tmp 2) (.tmp 36) rfl b2 #[.int .i64 (K : Int), .int .u32 (O : Int), .int .u32 (P : Int), .int .u32 (Q : Int), .int .u32 (A : Int), .string BD] rfl rfl 42 _ A6.out rfl (by kernel_rfl) (by kernel_rfl) ?_)
  exact ret_r2 Tryz.results59 b2 _ _ _ _ _ _ _ rfl rfl (setRow_heap w6 b2 _ _ _ _ A6.out) rfl ⟨rfl, below_setRow B6.out (by have := HB2.out; omega) _⟩

end Go.Proofs.YtcadlcpccemkbaaGreatDoor.X
