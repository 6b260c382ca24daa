/- Numbers cut: Numbers, the program's and the document's; Coins. -/
import Derived.Test.YtdmodknjcdkocaaJ23
import Derived.Test.YtdmodknjcdkocaaJ24
import Derived.Test.YtdmodknjcdkocaaJ28
import Derived.Test.YtdmodknjcdkocaaJ29
namespace Go.Proofs.Ytdmodknjcdkocaa.Ro
open Go.RowKit Pg
set_option maxRecDepth 100000
attribute [local go_sem] not_any T.mf_any

/- a number cut to so many bits -/
def cutN (B x : Nat) : Nat := x % 2 ^ B
theorem pow_le64 {L : Nat} (h : L ≤ 64) : 2 ^ L ≤ 18446744073709551616 := Nat.pow_le_pow_right (n := 2) (j := 64) (by omega) h
theorem pow_pos2 (L : Nat) : 0 < 2 ^ L := Nat.pow_pos (by omega)
theorem cutN_lt {B x : Nat} (hx : x < 18446744073709551616) : cutN B x < 18446744073709551616 := Nat.lt_of_le_of_lt (Nat.mod_le _ _) hx
theorem and_cut {x L M : Nat} (hx : x < 18446744073709551616) (hL : L ≤ 64) (hM : M = 2 ^ L - 1) : bits .and .u64 (x : Int) (M : Int) = ((cutN L x : Nat) : Int) := by
  have := pow_le64 hL
  rw [u64_and_nat _ _ hx (by omega), hM, Nat.and_two_pow_sub_one_eq_mod]
  rfl

set_option maxHeartbeats 1000000 in
theorem rcut_any (x B : Nat) (w : World) (hx : x < 18446744073709551616) (hB : B ≤ 64) :
    Calls Try.prog 42 #[.int .u64 (x : Int), .int .i64 (B : Int)] w fun e w' => e = .returned (.int .u64 ((cutN B x : Nat) : Int)) ∧ w' = w := by
  by_cases h : B = 64
  · have HC : Shy (cutN B x = x) := ⟨by rw [cutN, h]; exact Nat.mod_eq_of_lt hx⟩
    have hge : decide ((64 : Int) ≤ (B : Int)) = true := by simp; omega
    have hge2 : 64 ≤ B := by omega
    clear hB hx h
    go_enter Try.func42, Try.ntmps42
    go_wp2
    go_ret
    rw [HC.out]
    exact ⟨rfl, rfl⟩
  · have h2 : 2 ^ B < 18446744073709551616 := Nat.pow_lt_pow_right (n := 64) (by omega) (by omega)
    have hge : decide ((64 : Int) ≤ (B : Int)) = false := by simp; omega
    have hge2 : ¬ 64 ≤ B := by omega
    have hp : IntKind.u64.wrap (2 ^ B) = ((2 ^ B : Nat) : Int) := by
      rw [IntKind.wrap_u64, show ((2 : Int) ^ B) = ((2 ^ B : Nat) : Int) by simp]
      generalize 2 ^ B = p at h2 ⊢
      omega
    have hz : ¬ ((2 ^ B : Nat) : Int) = 0 := by have := pow_pos2 B; omega
    go_enter Try.func42, Try.ntmps42
    go_wp2
    go_ret
    exact ⟨rfl, rfl⟩

/- the first i numbers cut -/
def cutTo (B i : Nat) (l : List Nat) : List Nat := (l.take i).map (cutN B) ++ l.drop i
theorem cutTo_length (B i : Nat) (l : List Nat) : (cutTo B i l).length = l.length := by simp [cutTo]; omega
theorem cutTo_zero (B : Nat) (l : List Nat) : cutTo B 0 l = l := by simp [cutTo]
theorem cutTo_all (B : Nat) (l : List Nat) : cutTo B l.length l = l.map (cutN B) := by simp [cutTo]
theorem cutTo_at {B i : Nat} {l : List Nat} (h : i < l.length) : at0 (cutTo B i l) i = at0 l i := by
  have h1 : ((l.take i).map (cutN B)).length = i := by simp; omega
  unfold cutTo at0
  rw [List.getElem?_append_right (by omega), h1, Nat.sub_self, List.getElem?_drop, Nat.add_zero]
theorem cutTo_step {B i : Nat} {l : List Nat} (h : i < l.length) : (cutTo B i l).set i (cutN B (at0 l i)) = cutTo B (i + 1) l := by
  have h1 : ((l.take i).map (cutN B)).length = i := by simp; omega
  have h2 : l.drop i = at0 l i :: l.drop (i + 1) := by
    rw [List.drop_eq_getElem_cons h, at0, List.getElem?_eq_getElem h]
    rfl
  have h3 : l.take (i + 1) = l.take i ++ [at0 l i] := by
    rw [List.take_add_one, get_at0 h]
    rfl
  unfold cutTo
  rw [List.set_append_right _ _ (by omega), h1, Nat.sub_self, h2, List.set_cons_zero, h3, List.map_append, List.append_assoc]
  rfl

/- what Numbers answers: the list, and the error -/
def numC (W n : Int) : Int := if 1 ≤ W ∧ W ≤ 64 then (if 0 ≤ n ∧ n ≤ 36 then 0 else 2) else 11
def numL (kl : List Nat) (W n : Int) : List Nat := if numC W n = 0 then (wrd kl 1 0 n.toNat).map (cutN W.toNat) else []
def NPost (w : World) (ws : List Nat) (code : Int) (e : Ending) (w' : World) : Prop :=
  ∃ a m c, e = .returned (.tuple #[.slice a m c, .int .i64 code]) ∧ T.Nl w' m a ws ∧ m ≤ 36 ∧ Below w.heap.size w w'
theorem nl_none (w : World) : T.Nl w 0 none [] := ⟨rfl, fun k x h => by simp at h⟩
theorem nl_wrow {w : World} {g n : Nat} {ws : List Nat} (hn : ws.length = n) (h : w.heap[g]? = some (V.wrow ws)) : T.Nl w n (some ⟨g, 0, none⟩) ws :=
  ⟨hn, fun k x hx => ⟨g, 0, rfl, by rw [Nat.zero_add]; exact V.row_cell h hx⟩⟩
theorem wrd_lt {kl : List Nat} {x F N i : Nat} (h : i < N) : at0 (wrd kl x F N) i < 18446744073709551616 := by
  rw [at0, wrd, List.getElem?_map, List.getElem?_range h]
  exact wd_lt _ _ _
theorem numC_yes {W N : Nat} (h1 : 1 ≤ W) (h2 : W ≤ 64) (h3 : N ≤ 36) : numC (W : Int) (N : Int) = 0 := by rw [numC, if_pos (by omega), if_pos (by omega)]
theorem numL_yes {kl : List Nat} {W N : Nat} (h1 : 1 ≤ W) (h2 : W ≤ 64) (h3 : N ≤ 36) : numL kl (W : Int) (N : Int) = (wrd kl 1 0 N).map (cutN W) := by rw [numL, if_pos (numC_yes h1 h2 h3)]; rfl
theorem numL_no {kl : List Nat} {W n : Int} (h : numC W n ≠ 0) : numL kl W n = [] := if_neg h

set_option maxHeartbeats 4000000 in
theorem numbers_own (kl : List Nat) (W N : Nat) (w : World) (hk : kl.length = 32) (bk : Lt 256 kl) (h1 : 1 ≤ W) (h2 : W ≤ 64) (h3 : N ≤ 36) :
    Calls Try.prog 21 #[arr8 kl, .int .i64 (W : Int), .int .i64 (N : Int)] w (fun e w' => ∃ g c, e = .returned (.tuple #[.slice (some ⟨g, 0, none⟩) N c, .int .i64 0]) ∧ w.heap.size ≤ g ∧ w'.heap[g]? = some (V.wrow ((wrd kl 1 0 N).map (cutN W))) ∧ Below w.heap.size w w') := by
  have kw : Hid (∀ W, Calls Try.prog 39 #[arr8 kl, .int .u32 1, .int .i64 0, .int .i64 (N : Int)] W (fun e w' => ∃ g, e = .returned (.tuple #[.slice (some ⟨g, 0, none⟩) N N, .int .i64 0]) ∧ W.heap.size ≤ g ∧ w'.heap[g]? = some (V.wrow (wrd kl 1 0 N)) ∧ Below W.heap.size W w')) := fun w => words_own kl 1 0 N w hk bk (by omega) (by omega) (by omega)
  have HLn : Shy ((wrd kl 1 0 N).length = N) := ⟨wrd_length _ _ _ _⟩
  have HLt : Shy (∀ i, i < N → at0 (wrd kl 1 0 N) i < 18446744073709551616) := ⟨fun i h => wrd_lt h⟩
  have hi := hi23 hk
  have g1 : decide ((W : Int) < 1) = false := by rw [decide_eq_false_iff_not]; omega
  have g2 : decide ((64 : Int) < (W : Int)) = false := by rw [decide_eq_false_iff_not]; omega
  have g3 : decide ((N : Int) < 0) = false := by rw [decide_eq_false_iff_not]; omega
  have g4 : decide ((36 : Int) < (N : Int)) = false := by rw [decide_eq_false_iff_not]; omega
  generalize wrd kl 1 0 N = ws at *
  have hpp := pow_pos2 W
  have hpl := pow_le64 h2
  have HM : Shy (∀ x : Nat, x < 18446744073709551616 → bits .and .u64 (x : Int) ((2 ^ W - 1 : Nat) : Int) = ((cutN W x : Nat) : Int)) := ⟨fun x hx => and_cut hx h2 rfl⟩
  have hsh : IntKind.u64.wrap ((2 : Int) ^ W) = ((2 ^ W % 18446744073709551616 : Nat) : Int) := by
    rw [IntKind.wrap_u64, show ((2 : Int) ^ W) = ((2 ^ W : Nat) : Int) by simp]
    omega
  have hsu : IntKind.u64.wrap (((2 ^ W % 18446744073709551616 : Nat) : Int) - 1) = ((2 ^ W - 1 : Nat) : Int) := by
    rw [IntKind.wrap_u64]
    generalize 2 ^ W = p at *
    rcases (by omega : p = 18446744073709551616 ∨ p < 18446744073709551616) with h | h
    · subst h; rfl
    · rw [Nat.mod_eq_of_lt h]; omega
  have HSH := hide1 (And.intro hsh hsu)
  clear hsh hsu hpp hpl
  obtain ⟨M, hM⟩ : ∃ M, M = 2 ^ W - 1 := ⟨_, rfl⟩
  obtain ⟨P, hP⟩ : ∃ P, P = 2 ^ W % 18446744073709551616 := ⟨_, rfl⟩
  rw [← hM] at HM HSH
  rw [← hP] at HSH
  unfold arr8 at kw ⊢
  clear hk bk hM hP
  go_enter Try.func21, Try.ntmps21
  go_upto_region 1 with (fail)
  generalize hX : World.alloc w _ = X
  have x0 : X.heap[w.heap.size]? = some (row8 46 kl) := by rw [← hX]; exact heap_alloc_new _ _
  have xb : Below w.heap.size w X := by rw [← hX]; exact (Below.refl _ _).alloc (Nat.le_refl _) _
  have X0 := hide1 x0
  have XB := hide1 xb
  clear hX x0 xb
  go_wp2_with (first | (refine wpList_load_row rfl 46 (.tmp 3) rfl w.heap.size rfl 46 (u8s kl).toArray (0, 0) _ X0.out Try.underlying46 rfl hi ?_) | fail)
  go_at_call 39
  refine (kw.out _).mono ?_
  rintro e w1 ⟨g, rfl, hg, hw, hb⟩
  have HG := hide1 (Nat.le_trans XB.out.size hg)
  have HW := hide1 hw
  have HB := hide1 (XB.out.trans (hb.mono XB.out.size))
  clear hg hw hb kw X0 XB
  go_wp2
  go_loopw [36] (fun v wr => ∃ k : Nat, k ≤ N ∧ v = .int .i64 k ∧ wr.heap[g]? = some (V.wrow (cutTo W k ws)) ∧ Below w.heap.size w wr) (fun v _ => N - (intOf v).toNat)
  case atStart => exact ⟨0, Nat.zero_le _, rfl, by rw [cutTo_zero]; exact HW.out, HB.out⟩
  case round =>
    obtain ⟨k, hkN, rfl, hrow, hbe⟩ := hrel
    by_cases hlt : k < N
    · have bk : (k : Int) < (N : Int) := by omega
      have bk2 : (k : Int) < 36 := by omega
      have bx := HLt.out k hlt
      have cu := V.row_cell hrow (j := k) (get_at0 (by rw [cutTo_length, HLn.out]; exact hlt))
      rw [cutTo_at (by rw [HLn.out]; exact hlt)] at cu
      have fu := frozen_of_row wr g k _ _ hrow
      have hand := HM.out _ bx
      have HS : Shy ((cutTo W k ws).set k (cutN W (at0 ws k)) = cutTo W (k + 1) ws) := ⟨cutTo_step (by rw [HLn.out]; exact hlt)⟩
      have by' := cutN_lt (B := W) bx
      generalize at0 ws k = x at *
      generalize cutN W x = y at *
      have HR := hide1 hrow
      have HE := hide1 hbe
      obtain ⟨hsh, hsu⟩ := HSH.out
      have hmn : min W 64 = W := by omega
      clear hrow hbe
      go_upto_region 11 with (fail)
      refine region_f (F := [9]) (S := fun w' => w'.cell? ⟨g, k, none⟩ = some (.int .u64 (x : Int))) (by kernel_rfl) cu (fun hS => ?_)
      refine take_p 0 39 (.slice (some ⟨g, 0, none⟩) N N) rfl rfl (by kernel_rfl) (by kernel_rfl) (by kernel_rfl) (fun _ _ _ h => h) rfl (fun w => by go_simp) ?_
      try simp only [List.setIfInBounds_toArray, List.set_cons_zero, List.set_cons_succ]
      refine take_p 1 40 (.int .i64 (k : Int)) rfl rfl (by kernel_rfl) (by kernel_rfl) (by kernel_rfl) (fun _ _ _ h => h) rfl (fun w => by go_simp) ?_
      try simp only [List.setIfInBounds_toArray, List.set_cons_zero, List.set_cons_succ]
      refine take_p 2 41 (.pointer (some ⟨g, k, none⟩)) rfl rfl (by kernel_rfl) (by kernel_rfl) (by kernel_rfl) (fun _ _ _ h => h) rfl (fun w => by go_simp) ?_
      try simp only [List.setIfInBounds_toArray, List.set_cons_zero, List.set_cons_succ]
      refine take_f 3 42 (.int .u64 (x : Int)) [7, 8, 9] rfl rfl (by kernel_rfl) (by kernel_rfl) (by kernel_rfl) (by kernel_rfl) (by kernel_rfl) (by kernel_rfl) (fun _ _ _ h => h) rfl (fun w hSw => by have h1 := hSw; go_simp) hS ?_
      try simp only [List.setIfInBounds_toArray, List.set_cons_zero, List.set_cons_succ]
      refine take_p 4 43 (.int .i64 (W : Int)) rfl rfl (by kernel_rfl) (by kernel_rfl) (by kernel_rfl) (fun _ _ _ h => h) rfl (fun w => by go_simp) ?_
      try simp only [List.setIfInBounds_toArray, List.set_cons_zero, List.set_cons_succ]
      refine take_p 5 44 (.int .u64 (P : Int)) rfl rfl (by kernel_rfl) (by kernel_rfl) (by kernel_rfl) (fun _ _ _ h => h) rfl (fun w => by go_simp) ?_
      try simp only [List.setIfInBounds_toArray, List.set_cons_zero, List.set_cons_succ]
      refine take_p 6 45 (.int .u64 (M : Int)) rfl rfl (by kernel_rfl) (by kernel_rfl) (by kernel_rfl) (fun _ _ _ h => h) rfl (fun w => by go_simp) ?_
      try simp only [List.setIfInBounds_toArray, List.set_cons_zero, List.set_cons_succ]
      refine take_p 7 46 (.int .u64 (y : Int)) rfl rfl (by kernel_rfl) (by kernel_rfl) (by kernel_rfl) (fun _ _ _ h => h) rfl (fun w => by go_simp) ?_
      try simp only [List.setIfInBounds_toArray, List.set_cons_zero, List.set_cons_succ]
      refine take_p 8 47 (.pointer (some ⟨g, k, none⟩)) rfl rfl (by kernel_rfl) (by kernel_rfl) (by kernel_rfl) (fun _ _ _ h => h) rfl (fun w => by go_simp) ?_
      try simp only [List.setIfInBounds_toArray, List.set_cons_zero, List.set_cons_succ]
      refine ready_f 9 (o := { dst := none, op := Op.store 49 (Operand.tmp 47) (Operand.tmp 46), type := 0, pos := "rot.go:61", after := #[{ on := 8, ground := Ground.data }, { on := 7, ground := Ground.data }, { on := 0, ground := Ground.phase }, { on := 1, ground := Ground.phase }, { on := 2, ground := Ground.phase }, { on := 3, ground := Ground.phase }, { on := 4, ground := Ground.phase }, { on := 5, ground := Ground.phase }, { on := 6, ground := Ground.phase }, { on := 7, ground := Ground.phase }], guard := none }) (by kernel_rfl) rfl (fun K hK => ?_)
      go_simp
      refine hK.out _ _ (fun h => absurd (by decide) h) ?_
      clear hK K
      refine done_f (by kernel_rfl) ?_ _
      clear hS cu fu hsh hsu hand hmn
      go_wp2
      go_roundw
      case rel =>
        refine ⟨k + 1, by omega, by go_num, ?_, ?_⟩
        · rw [← HS.out]
          exact V.wset (w := wr.drew) HR.out
        · exact (HE.out.drew).setCell HG.out _
      case measure => simp [intOf]; omega
    · obtain rfl : k = N := by omega
      have HF : Hid (wr.heap[g]? = some (V.wrow (ws.map (cutN W)))) := by show wr.heap[g]? = _; rw [hrow, ← cutTo_all, HLn.out]
      have HE := hide1 hbe
      clear hrow hbe
      go_wp2
      go_ret2
      exact ⟨_, _, rfl, HG.out, HF.out, HE.out⟩
theorem numbers_good (kl : List Nat) (W N : Nat) (w : World) (hk : kl.length = 32) (bk : Lt 256 kl) (h1 : 1 ≤ W) (h2 : W ≤ 64) (h3 : N ≤ 36) :
    Calls Try.prog 21 #[arr8 kl, .int .i64 (W : Int), .int .i64 (N : Int)] w (NPost w ((wrd kl 1 0 N).map (cutN W)) 0) :=
  (numbers_own kl W N w hk bk h1 h2 h3).mono fun _ _ ⟨g, c, he, _, hr, hb⟩ => ⟨_, _, _, he, nl_wrow (by rw [List.length_map, wrd_length]) hr, h3, hb⟩

theorem numbers_bad (kl : List Nat) (W n : Int) (w : World) (_hk : kl.length = 32) (h : numC W n ≠ 0) :
    Calls Try.prog 21 #[arr8 kl, .int .i64 W, .int .i64 n] w (NPost w [] (numC W n)) := by
  have hb : Below w.heap.size w (w.alloc (row8 46 kl)) := (Below.refl _ _).alloc (Nat.le_refl _) _
  unfold row8 at hb
  have HB := hide1 hb
  clear hb
  unfold arr8
  by_cases hW : 1 ≤ W ∧ W ≤ 64
  · have hn : ¬ (0 ≤ n ∧ n ≤ 36) := fun hh => h (by rw [numC, if_pos hW, if_pos hh])
    have hc : numC W n = 2 := by rw [numC, if_pos hW, if_neg hn]
    have g1 : decide (W < 1) = false := by rw [decide_eq_false_iff_not]; omega
    have g2 : decide ((64 : Int) < W) = false := by rw [decide_eq_false_iff_not]; omega
    rw [hc]
    by_cases hn0 : n < 0
    · have g3 : decide (n < 0) = true := decide_eq_true hn0
      clear hn h hc _hk
      go_enter Try.func21, Try.ntmps21
      go_wp2
      go_ret2
      exact ⟨_, _, _, rfl, nl_none _, by omega, HB.out⟩
    · have g3 : decide (n < 0) = false := decide_eq_false hn0
      have g4 : decide ((36 : Int) < n) = true := decide_eq_true (by omega)
      clear hn h hc _hk
      go_enter Try.func21, Try.ntmps21
      go_wp2
      go_ret2
      exact ⟨_, _, _, rfl, nl_none _, by omega, HB.out⟩
  · have hc : numC W n = 11 := by rw [numC, if_neg hW]
    rw [hc]
    by_cases hW1 : W < 1
    · have g1 : decide (W < 1) = true := decide_eq_true hW1
      clear hW h hc _hk
      go_enter Try.func21, Try.ntmps21
      go_wp2
      go_ret2
      exact ⟨_, _, _, rfl, nl_none _, by omega, HB.out⟩
    · have g1 : decide (W < 1) = false := decide_eq_false hW1
      have g2 : decide ((64 : Int) < W) = true := decide_eq_true (by omega)
      clear hW h hc _hk
      go_enter Try.func21, Try.ntmps21
      go_wp2
      go_ret2
      exact ⟨_, _, _, rfl, nl_none _, by omega, HB.out⟩

theorem numbers_any (kl : List Nat) (W n : Int) (w : World) (hk : kl.length = 32) (bk : Lt 256 kl) :
    Calls Try.prog 21 #[arr8 kl, .int .i64 W, .int .i64 n] w (NPost w (numL kl W n) (numC W n)) := by
  by_cases h : numC W n = 0
  · have h1 : (1 ≤ W ∧ W ≤ 64) ∧ 0 ≤ n ∧ n ≤ 36 := by
      unfold numC at h
      split at h
      · split at h
        · exact ⟨‹_›, ‹_›⟩
        · cases h
      · cases h
    obtain ⟨V, rfl⟩ := Int.eq_ofNat_of_zero_le (show 0 ≤ W by omega)
    obtain ⟨N, rfl⟩ := Int.eq_ofNat_of_zero_le (show 0 ≤ n by omega)
    rw [h, numL_yes (by omega) (by omega) (by omega)]
    exact numbers_good kl V N w hk bk (by omega) (by omega) (by omega)
  · rw [numL_no h]
    exact numbers_bad kl W n w hk h
end Go.Proofs.Ytdmodknjcdkocaa.Ro
