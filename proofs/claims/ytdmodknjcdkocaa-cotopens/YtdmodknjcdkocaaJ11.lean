/- The document's Block. -/
import Derived.Test.YtdmodknjcdkocaaJ07
namespace Go.Proofs.Ytdmodknjcdkocaa.Pg
open Go.RowKit
set_option maxRecDepth 100000
attribute [local go_sem] not_any

theorem own_heap {base e size n : Nat} {w w' : World} {v : Value} {xs : List Value} (h : w'.heap = w.heap) (ho : w.ownsRow base e size v n xs) : w'.ownsRow base e size v n xs := by
  refine ⟨ho.1, ?_⟩
  rcases ho.2 with h2 | ⟨g, cap, cur, hv, hg, hh, r⟩
  · exact .inl h2
  · exact .inr ⟨g, cap, cur, hv, hg, by rw [h]; exact hh, r⟩
theorem own_below {base e size n : Nat} {w w' : World} {v : Value} {xs : List Value} (ho : w.ownsRow base e size v n xs) (hb : Below w.heap.size w w') : w'.ownsRow base e size v n xs := by
  refine ⟨ho.1, ?_⟩
  rcases ho.2 with h2 | ⟨g, cap, cur, hv, hg, hh, r⟩
  · exact .inl h2
  · exact .inr ⟨g, cap, cur, hv, hg, (hb.block _ (lt_heap hh)).trans hh, r⟩
theorem own_four (w : World) (base : Nat) (hb : base ≤ w.heap.size) : (w.alloc (row32 72 FOUR)).ownsRow base 72 1 (.slice (some ⟨w.heap.size, 0, none⟩) 4 4) 4 (u32s FOUR) :=
  ⟨rfl, .inr ⟨w.heap.size, 4, (u32s FOUR).toArray, rfl, hb, heap_alloc_new _ _, Nat.le_refl _, by unfold maxLen; omega, rfl, rfl⟩⟩

theorem size_alloc (w : World) (o : Obj) : (w.alloc o).heap.size = w.heap.size + 1 := by simp

set_option maxHeartbeats 1000000 in
theorem rblock_no (kl : List Nat) (s : ByteArray) (c : Nat) (w : World) (hs : s.size ≠ 12) :
    Calls Try.prog 56 #[arr8 kl, .string s, .int .u32 (c : Int)] w fun e w' => e = .returned (.tuple #[.string ByteArray.empty, .int .i64 11]) ∧ Below w.heap.size w w' := by
  have h1 : ((s.size : Int) != 12) = true := by rw [bne_iff_ne]; omega
  clear hs
  unfold arr8
  go_enter Try.func56, Try.ntmps56
  go_wp2
  go_ret2
  exact ⟨rfl, (Below.refl _ _).alloc (Nat.le_refl _) _⟩

theorem places (k s0 : Nat) (hk : k < 4) (hs : s0 < 2) : ∃ k1 t2 k2 t3 k3 m1 m2 m3 pb pc pd : Nat, pb = 4 + (k + s0) % 4 ∧ pc = 8 + (k + 2 * s0) % 4 ∧ pd = 12 + (k + 3 * s0) % 4 ∧
    (k : Int) + (s0 : Int) = (k1 : Int) ∧ 2 * (s0 : Int) = (t2 : Int) ∧ (k : Int) + (t2 : Int) = (k2 : Int) ∧ 3 * (s0 : Int) = (t3 : Int) ∧ (k : Int) + (t3 : Int) = (k3 : Int) ∧ (k1 : Int) % 4 = (m1 : Int) ∧ (k2 : Int) % 4 = (m2 : Int) ∧ (k3 : Int) % 4 = (m3 : Int) ∧
    4 + (m1 : Int) = (pb : Int) ∧ 8 + (m2 : Int) = (pc : Int) ∧ 12 + (m3 : Int) = (pd : Int) ∧ (k1 : Int) ≤ 8 ∧ (t2 : Int) ≤ 8 ∧ (k2 : Int) ≤ 16 ∧ (t3 : Int) ≤ 8 ∧ (k3 : Int) ≤ 16 ∧ pb < 16 ∧ pc < 16 ∧ pd < 16 ∧ k < 16 ∧ (pb : Int) < 16 ∧ (pc : Int) < 16 ∧ (pd : Int) < 16 ∧ (k : Int) < 16 ∧ (k : Int) < 4 :=
  ⟨k + s0, 2 * s0, k + 2 * s0, 3 * s0, k + 3 * s0, (k + s0) % 4, (k + 2 * s0) % 4, (k + 3 * s0) % 4, 4 + (k + s0) % 4, 8 + (k + 2 * s0) % 4, 12 + (k + 3 * s0) % 4, rfl, rfl, rfl,
    by omega, by omega, by omega, by omega, by omega, by omega, by omega, by omega, by omega, by omega, by omega, by omega, by omega, by omega, by omega, by omega, by omega, by omega, by omega, by omega, by omega, by omega, by omega, by omega, by omega⟩

set_option maxHeartbeats 8000000 in
theorem rblock_any (kl : List Nat) (s : ByteArray) (c : Nat) (w : World) (hk : kl.length = 32) (bk : Lt 256 kl) (hs : s.size = 12) (hc : c < 4294967296) :
    Calls Try.prog 56 #[arr8 kl, .string s, .int .u32 (c : Int)] w fun e w' => e = .returned (.tuple #[.string (txt (blockP kl (nums s) c)), .int .i64 0]) ∧ Below w.heap.size w w' := by
  obtain ⟨i0, hi, hz0, hz1, hz2⟩ := info_of info22
  have Hk := hide1 hk
  have HK : Shy (nums (txt kl) = kl) := ⟨nums_txt bk⟩
  have HS : Shy (s.size = 12) := ⟨hs⟩
  have HKT : Shy ((txt kl).size = 32) := ⟨by rw [nums_size HK.out, hk]⟩
  have HBK := hide1 bk
  have HC := hide1 hc
  have h1 : (s.size : Int) = 12 := by omega
  clear hk bk hs hc
  unfold arr8
  go_enter Try.func56, Try.ntmps56
  go_upto_region 4 with (fail)
  generalize hW : World.alloc (World.alloc w _) _ = W
  have w0 : W.heap[w.heap.size]? = some (row8 46 kl) := by rw [← hW]; exact heap_alloc2_old _ _ _
  have wo : W.ownsRow (w.heap.size + 1) 72 1 (.slice (some ⟨w.heap.size + 1, 0, none⟩) 4 4) 4 (u32s (gP kl 0)) := by
    have := own_four (w.alloc (row8 46 kl)) (w.heap.size + 1) (by simp)
    rw [show (w.alloc (row8 46 kl)).heap.size = w.heap.size + 1 by simp] at this
    rw [← hW]
    exact this
  have wb : Below w.heap.size w W := by rw [← hW]; exact ((Below.refl _ _).alloc (Nat.le_refl _) _).alloc (by simp) _
  have hcv := conv_row (cap := 32) w0
  rw [Hk.out] at hcv
  obtain ⟨tx, htx⟩ : ∃ tx, tx = txt kl := ⟨_, rfl⟩
  rw [← htx] at hcv
  have HTX : Shy (nums tx = kl) := ⟨by rw [htx]; exact HK.out⟩
  have HTZ : Shy (tx.size = 32) := ⟨by rw [htx]; exact HKT.out⟩
  have WO := hide1 wo
  have WB := hide1 wb
  have hws : w.heap.size + 1 < W.heap.size := by have := (wo.lt (w.heap.size + 1) rfl).2; exact this
  have HWS := hide1 hws
  clear hW w0 wo wb htx hws HK HKT
  go_wp2
  go_loopw [8, 10] (fun v8 i wr => ∃ k gg cap : Nat, k ≤ 8 ∧ i = .int .i64 k ∧ v8 = .slice (some ⟨gg, 0, none⟩) (4 + k) cap ∧ wr.ownsRow (w.heap.size + 1) 72 1 (.slice (some ⟨gg, 0, none⟩) (4 + k) cap) (4 + k) (u32s (gP kl k)) ∧ Below (w.heap.size + 1) W wr) (fun _ i _ => 8 - (intOf i).toNat)
  case atStart => exact ⟨0, _, _, Nat.zero_le _, rfl, rfl, WO.out, Below.refl _ _⟩
  case round =>
    obtain ⟨k, gg, cap, hk, rfl, rfl, hro, hbe⟩ := hrel
    clear WO
    by_cases hlt : k < 8
    · obtain ⟨n, hn⟩ : ∃ n, n = 4 + k := ⟨_, rfl⟩
      rw [← hn] at hro ⊢
      obtain ⟨p, hp⟩ : ∃ p, p = 4 * k := ⟨_, rfl⟩
      have ep : 4 * (k : Int) = (p : Int) := by omega
      have ep' : IntKind.i64.wrap (p : Int) = (p : Int) := by rw [IntKind.wrap_i64]; omega
      have hfr := run_from tx p (by rw [HTZ.out]; omega)
      have hnx : nums (tx.extract p tx.size) = kl.drop p := by
        rw [nums_extract, HTX.out, List.take_of_length_le (by rw [List.length_drop, Hk.out, HTZ.out]; omega)]
      have hnz : 4 ≤ (tx.extract p tx.size).size := by rw [nums_size hnx, List.length_drop, Hk.out]; omega
      have hW := fun w => hide1 (rword_any (tx.extract p tx.size) w hnz)
      rw [hnx, leW_drop, Nat.add_zero] at hW
      have HN : Shy (gP kl (k + 1) = gP kl k ++ [leW kl p]) := ⟨by rw [gP_succ, hp]⟩
      have Hn : Shy (n = 4 + k) := ⟨hn⟩
      have hn11 : n ≤ 11 := by omega
      generalize tx.extract p tx.size = tp at *
      generalize leW kl p = x at *
      have HO := hide1 hro
      have HE := hide1 hbe
      clear hro hbe hnx hnz hp hn
      go_wp2_with fail
      go_at_call 61
      refine (hW _).out.mono ?_
      rintro e w1 ⟨rfl, q1, hw1⟩
      have h1h : w1.heap = wr.heap := by rw [hw1]; rfl
      have h1b : Below (w.heap.size + 1) W w1 := by rw [hw1]; exact below_drewN' HE.out q1
      have HO1 := hide1 (own_heap h1h HO.out)
      have HB1 := hide1 h1b
      clear hw1 h1h h1b hW
      go_wp2_with (first
        | (at_builtin; go_must (refine wpList_append_lies _ rfl (.tmp 31) (.tmp 37) 92 rfl (w.heap.size + 1) 72 i0 (.int .u32 0) 1 4 Try.underlying92 hi hz0 hz1 hz2 rfl (by decide) (.slice (some ⟨gg, 0, none⟩) n cap) n (u32s (gP kl k)) rfl (HO1.out.alloc _) ⟨w1.heap.size, 0, none⟩ 1 1 (u32s [x]) rfl rfl (World.news_of_block (heap_alloc_new w1 (row32 72 [x]))) (u32s_one _) (by omega) (by unfold maxLen; omega) (by omega) (by have := HB1.out.size; have := HWS.out; simp; omega) _ rfl ?_; intro g6 cap6 w6 ro6 gr6 wh6 lt6))
        | fail)
      have RO6 := hide1 ro6
      have hb6 : Below (w.heap.size + 1) W w6 := (HB1.out.alloc (by have := HB1.out.size; have := HWS.out; omega) _).grown gr6 (by have := HB1.out.size; have := HWS.out; simp; omega) (fun k hk => (HO1.out.lt k hk).1)
      have HB6 := hide1 hb6
      clear ro6 gr6 wh6 lt6 hb6
      go_wp2
      go_roundw
      case rel =>
        have en : n + 1 = 4 + (k + 1) := by have := Hn.out; omega
        refine ⟨k + 1, g6, cap6, by omega, by go_num, by rw [en], ?_, HB6.out⟩
        have := RO6.out
        rw [en] at this
        rw [HN.out, show u32s (gP kl k ++ [x]) = u32s (gP kl k) ++ u32s [x] by simp [u32s]]
        exact this
      case measure => simp [intOf]; omega
    · have : k = 8 := by omega
      subst this
      obtain ⟨V, hV⟩ : ∃ V, V = wr := ⟨_, rfl⟩
      subst hV
      have HO : Hid (V.ownsRow (w.heap.size + 1) 72 1 (.slice (some ⟨gg, 0, none⟩) 12 cap) 12 (u32s (gP kl 8))) := hro
      have HB := hide1 hbe
      have HVS : Hid (w.heap.size + 1 < V.heap.size) := by show _ < _; have := hbe.size; have := HWS.out; omega
      clear hro hbe
      rw [show ((8 : Nat) : Int) = 8 from rfl, show 4 + 8 = 12 from rfl]
      have hf4 := run_from s 4 (by rw [HS.out]; omega)
      have hf8 := run_from s 8 (by rw [HS.out]; omega)
      have n4 : nums (s.extract 4 s.size) = (nums s).drop 4 := by rw [nums_extract, List.take_of_length_le (by rw [List.length_drop, nums_length, HS.out]; omega)]
      have n8 : nums (s.extract 8 s.size) = (nums s).drop 8 := by rw [nums_extract, List.take_of_length_le (by rw [List.length_drop, nums_length, HS.out]; omega)]
      have z4 : 4 ≤ (s.extract 4 s.size).size := by rw [nums_size n4, List.length_drop, nums_length, HS.out]; omega
      have z8 : 4 ≤ (s.extract 8 s.size).size := by rw [nums_size n8, List.length_drop, nums_length, HS.out]; omega
      have hw0 := fun w => hide1 (rword_any s w (by rw [HS.out]; omega))
      have hw4 := fun w => hide1 (rword_any (s.extract 4 s.size) w z4)
      have hw8 := fun w => hide1 (rword_any (s.extract 8 s.size) w z8)
      rw [n4, leW_drop] at hw4
      rw [n8, leW_drop] at hw8
      have HG : Shy (gP kl 8 ++ [c, leW (nums s) 0, leW (nums s) (4 + 0), leW (nums s) (8 + 0)] = layP kl (nums s) c) := ⟨gP_all kl (nums s) c⟩
      have HLl : Shy ((layP kl (nums s) c).length = 16) := ⟨layP_length _ _ _⟩
      have HLt := hide1 (layP_lt HBK.out (nums_lt s) HC.out)
      have HBP : Shy (blockP kl (nums s) c = outR (layP kl (nums s) c) 16) := ⟨by rw [blockP, blkP_outR]⟩
      rw [show ((4 : Nat) : Int) = 4 from rfl] at hf4
      rw [show ((8 : Nat) : Int) = 8 from rfl] at hf8
      generalize s.extract 4 s.size = s4 at *
      generalize s.extract 8 s.size = s8 at *
      generalize leW (nums s) 0 = x0 at *
      generalize leW (nums s) (4 + 0) = x4 at *
      generalize leW (nums s) (8 + 0) = x8 at *
      obtain ⟨L, hL⟩ : ∃ L, L = layP kl (nums s) c := ⟨_, rfl⟩
      rw [← hL] at HG HLl HLt HBP
      clear n4 n8 z4 z8 hL
      go_upto_region 9 with (fail)
      refine region_f (F := [3, 6, 9, 10, 11]) (S := fun _ => True) (by kernel_rfl) trivial (fun _ => ?_)
      refine take_p 0 39 (.slice (some ⟨gg, 0, none⟩) 12 cap) rfl rfl (by kernel_rfl) (by kernel_rfl) (by kernel_rfl) (fun _ _ _ h => h) rfl (fun w => by go_simp) ?_
      try simp only [List.setIfInBounds_toArray, List.set_cons_zero, List.set_cons_succ]
      refine take_p 1 40 (.int .u32 (c : Int)) rfl rfl (by kernel_rfl) (by kernel_rfl) (by kernel_rfl) (fun _ _ _ h => h) rfl (fun w => by go_simp) ?_
      try simp only [List.setIfInBounds_toArray, List.set_cons_zero, List.set_cons_succ]
      refine take_p 2 41 (.string s) rfl rfl (by kernel_rfl) (by kernel_rfl) (by kernel_rfl) (fun _ _ _ h => h) rfl (fun w => by go_simp) ?_
      try simp only [List.setIfInBounds_toArray, List.set_cons_zero, List.set_cons_succ]
      refine take_p 4 43 (.string s) rfl rfl (by kernel_rfl) (by kernel_rfl) (by kernel_rfl) (fun _ _ _ h => h) rfl (fun w => by go_simp) ?_
      try simp only [List.setIfInBounds_toArray, List.set_cons_zero, List.set_cons_succ]
      refine take_p 5 44 (.string s4) rfl rfl (by kernel_rfl) (by kernel_rfl) (by kernel_rfl) (fun _ _ _ h => h) rfl (fun w => by have h1 := hf4; go_simp) ?_
      try simp only [List.setIfInBounds_toArray, List.set_cons_zero, List.set_cons_succ]
      refine take_p 7 46 (.string s) rfl rfl (by kernel_rfl) (by kernel_rfl) (by kernel_rfl) (fun _ _ _ h => h) rfl (fun w => by go_simp) ?_
      try simp only [List.setIfInBounds_toArray, List.set_cons_zero, List.set_cons_succ]
      refine take_p 8 47 (.string s8) rfl rfl (by kernel_rfl) (by kernel_rfl) (by kernel_rfl) (fun _ _ _ h => h) rfl (fun w => by have h1 := hf8; go_simp) ?_
      try simp only [List.setIfInBounds_toArray, List.set_cons_zero, List.set_cons_succ]
      refine ready_f 3 (o := { dst := some 42, op := Op.call { callee := Callee.value (Operand.func 61), args := #[Operand.tmp 41], argTypes := #[9] }, type := 72, pos := "ref.go:63", after := #[{ on := 2, ground := Ground.data }], guard := none }) (by kernel_rfl) rfl (fun K hK => ?_)
      go_simp
      refine (hw0 _).out.mono ?_
      rintro e wa ⟨rfl, q0, hw⟩
      refine hK.out _ _ (fun h => absurd (by decide) h) ?_
      clear hK K
      try simp only [Act.put, List.setIfInBounds_toArray, List.set_cons_zero, List.set_cons_succ]
      have Ewa : Shy (wa.heap = V.heap ∧ Below V.heap.size V wa) := ⟨by rw [hw]; exact ⟨rfl, below_drewN' (Below.refl _ _).drew _⟩⟩
      clear hw
      refine ready_f 6 (o := { dst := some 45, op := Op.call { callee := Callee.value (Operand.func 61), args := #[Operand.tmp 44], argTypes := #[9] }, type := 72, pos := "ref.go:63", after := #[{ on := 5, ground := Ground.data }, { on := 3, ground := Ground.chain }], guard := none }) (by kernel_rfl) rfl (fun K hK => ?_)
      go_simp
      refine (hw4 _).out.mono ?_
      rintro e wb ⟨rfl, q1, hw⟩
      refine hK.out _ _ (fun h => absurd (by decide) h) ?_
      clear hK K
      try simp only [Act.put, List.setIfInBounds_toArray, List.set_cons_zero, List.set_cons_succ]
      have Ewb : Shy (wb.heap = V.heap ∧ Below V.heap.size V wb) := ⟨by rw [hw]; exact ⟨Ewa.out.1, below_drewN' Ewa.out.2 _⟩⟩
      clear hw
      refine ready_f 9 (o := { dst := some 48, op := Op.call { callee := Callee.value (Operand.func 61), args := #[Operand.tmp 47], argTypes := #[9] }, type := 72, pos := "ref.go:63", after := #[{ on := 8, ground := Ground.data }, { on := 6, ground := Ground.chain }], guard := none }) (by kernel_rfl) rfl (fun K hK => ?_)
      go_simp
      refine (hw8 _).out.mono ?_
      rintro e wc ⟨rfl, q2, hw⟩
      refine hK.out _ _ (fun h => absurd (by decide) h) ?_
      clear hK K
      try simp only [Act.put, List.setIfInBounds_toArray, List.set_cons_zero, List.set_cons_succ]
      have Ewc : Shy (wc.heap = V.heap ∧ Below V.heap.size V wc) := ⟨by rw [hw]; exact ⟨Ewb.out.1, below_drewN' Ewb.out.2 _⟩⟩
      clear hw
      refine ready_f 10 (o := { dst := some 49, op := Op.buildSlice 92 4 #[(0, Operand.tmp 40), (1, Operand.tmp 42), (2, Operand.tmp 45), (3, Operand.tmp 48)], type := 92, pos := "ref.go:63", after := #[{ on := 1, ground := Ground.data }, { on := 3, ground := Ground.data }, { on := 6, ground := Ground.data }, { on := 9, ground := Ground.data }], guard := none }) (by kernel_rfl) rfl (fun K hK => ?_)
      go_simp
      refine hK.out _ _ (fun h => absurd (by decide) h) ?_
      clear hK K
      try simp only [Act.put, List.setIfInBounds_toArray, List.set_cons_zero, List.set_cons_succ]
      refine ready_f 11 (o := { dst := some 50, op := Op.call { callee := Callee.builtin Builtin.append, args := #[Operand.tmp 39, Operand.tmp 49], argTypes := #[92, 92] }, type := 92, pos := "ref.go:63", after := #[{ on := 0, ground := Ground.data }, { on := 10, ground := Ground.data }, { on := 9, ground := Ground.chain }], guard := none }) (by kernel_rfl) rfl (fun K hK => ?_)
      refine step_append_lies _ rfl (.tmp 39) (.tmp 49) 92 rfl (w.heap.size + 1) 72 i0 (.int .u32 0) 1 4 Try.underlying92 hi hz0 hz1 hz2 rfl (by decide) (.slice (some ⟨gg, 0, none⟩) 12 cap) 12 (u32s (gP kl 8)) rfl ((own_heap Ewc.out.1 HO.out).alloc _) ⟨wc.heap.size, 0, none⟩ 4 4 (u32s [c, x0, x4, x8]) rfl rfl (World.news_of_block (heap_alloc_new wc (row32 72 [c, x0, x4, x8]))) (u32s_one _) (by omega) (by unfold maxLen; omega) (by omega) (by rw [size_alloc, Ewc.out.1]; have := HVS.out; omega) _ rfl ?_
      intro g6 cap6 w6 ro6 gr6 wh6 lt6
      refine hK.out _ _ (fun h => absurd (by decide) h) ?_
      clear hK K
      try simp only [Act.put, List.setIfInBounds_toArray, List.set_cons_zero, List.set_cons_succ]
      refine take_p 12 8 (.slice (some ⟨g6, 0, none⟩) (12 + 4) cap6) rfl rfl (by kernel_rfl) (by kernel_rfl) (by kernel_rfl) (fun _ _ _ h => h) rfl (fun w => by go_simp) ?_
      try simp only [List.setIfInBounds_toArray, List.set_cons_zero, List.set_cons_succ]
      refine done_f (by kernel_rfl) ?_ _
      rw [show u32s (gP kl 8) ++ u32s [c, x0, x4, x8] = u32s L by rw [← HG.out]; simp [u32s]] at ro6
      have hb6 : Below (w.heap.size + 1) W w6 := ((HB.out.trans (Ewc.out.2.mono (by have := HVS.out; omega))).alloc (by rw [Ewc.out.1]; have := HVS.out; omega) _).grown gr6 (by have := HVS.out; rw [size_alloc, Ewc.out.1]; omega) (fun k hk => (HO.out.lt k hk).1)
      obtain ⟨m1, m2⟩ := mn_own (l := L) HLl.out ro6
      have hs6 : ∀ j u, (u32s L)[j]? = some u → (w6.alloc (.cells #[] 72)).cell? ((⟨g6, 0, none⟩ : Addr).add j) = some u := (ro6.alloc (.cells #[] 72)).cells (g := g6) rfl
      have HS6 := hide1 hs6
      have HB6 := hide1 (WB.out.trans (hb6.mono (by omega)))
      have M2 := hide1 m2
      have HZ6 : Hid (g6 < w6.heap.size) := m2.lt
      have HO7 := hide1 (own_empty w6 w6.heap.size (Nat.le_refl _))
      clear ro6 gr6 wh6 lt6 hb6 m1 m2 hs6 Ewa Ewb Ewc HO HB HVS hf4 hf8 hw0 hw4 hw8
      go_wp2_with (first
        | (at_builtin; go_must (refine wpList_append_lies _ rfl (.tmp 51) (.tmp 52) 92 rfl w6.heap.size 72 i0 (.int .u32 0) 1 4 Try.underlying92 hi hz0 hz1 hz2 rfl (by decide) (.slice (some ⟨w6.heap.size, 0, none⟩) 0 0) 0 (u32s []) rfl HO7.out ⟨g6, 0, none⟩ 16 cap6 (u32s L) rfl (by rw [u32s_length, HLl.out]) HS6.out (u32s_one _) (by omega) (by unfold maxLen; omega) (by omega) (by simp) _ rfl ?_; intro gv capv w7 ro7 gr7 wh7 lt7))
        | fail)
      obtain ⟨m1, m2⟩ := mn_own (l := L) (by rw [HLl.out]) ro7
      have b7 : Below w6.heap.size w6 w7 := ((Below.refl _ _).alloc (Nat.le_refl _) _).grown gr7 (by rw [size_alloc]; omega) (fun k hk => by simp [Value.ownBlock] at hk; omega)
      obtain ⟨B2, hB2⟩ : ∃ B2, B2 = w6.heap.size := ⟨_, rfl⟩
      rw [← hB2] at m1 b7
      have mg : Mn w7 g6 L := M2.out.to (b7.block _ (by rw [hB2]; exact HZ6.out))
      have HM := hide1 m2
      have HMG := hide1 mg
      have HGV := hide1 m1
      have HG6 : Hid (g6 < B2) := by show _ < _; rw [hB2]; exact HZ6.out
      have HW7 := hide1 (HB6.out.trans (b7.mono (by rw [hB2]; exact HB6.out.size)))
      have HBW : Hid (w.heap.size ≤ B2) := by show _ ≤ _; rw [hB2]; exact HB6.out.size
      clear ro7 gr7 wh7 lt7 m1 m2 mg b7 hB2 HO7 HS6 HZ6 M2 HB6
      go_wp2
      go_loopw [12] (fun i wr => ∃ r : Nat, r ≤ 20 ∧ i = .int .i64 r ∧ Mn wr gv (halves L r) ∧ Below B2 w7 wr) (fun i _ => 20 - (intOf i).toNat)
      case atStart => exact ⟨0, Nat.zero_le _, rfl, HM.out, Below.refl _ _⟩
      case round =>
        obtain ⟨r, hr, rfl, hmn, hbe⟩ := hrel
        clear HM
        by_cases hlt : r < 20
        · obtain ⟨U, hU⟩ : ∃ U, U = wr := ⟨_, rfl⟩
          subst hU
          have HMr := hide1 hmn
          have HBr := hide1 hbe
          have Hlr := hide1 (halves_lt HLt.out r)
          have Hnr : Shy ((halves L r).length = 16) := ⟨by rw [halves_length, HLl.out]⟩
          have HHr : Shy (halves L (r + 1) = turns (r % 2) (halves L r) 4) := ⟨by rw [halves]⟩
          obtain ⟨s0, hs0⟩ : ∃ s0, s0 = r % 2 := ⟨_, rfl⟩
          rw [← hs0] at HHr
          have es : (r : Int) % 2 = (s0 : Int) := by omega
          have hri : (r : Int) < 20 := by omega
          have hs2 : s0 < 2 := by omega
          generalize halves L r = l at *
          clear hmn hbe hs0
          go_wp2
          go_loopw [13] (fun i wr => ∃ k : Nat, k ≤ 4 ∧ i = .int .i64 k ∧ Mn wr gv (turns s0 l k) ∧ Below B2 w7 wr) (fun i _ => 4 - (intOf i).toNat)
          case atStart => exact ⟨0, Nat.zero_le _, rfl, HMr.out, HBr.out⟩
          case round =>
            obtain ⟨k, hk, rfl, hmn, hbe⟩ := hrel
            clear HMr HBr
            by_cases hlt4 : k < 4
            · obtain ⟨U3, hU3⟩ : ∃ U, U = wr := ⟨_, rfl⟩
              subst hU3
              have HI : Shy (turns s0 l (k + 1) = turnP (turns s0 l k) k (4 + (k + s0) % 4) (8 + (k + 2 * s0) % 4) (12 + (k + 3 * s0) % 4)) := ⟨by rw [turns, turnI]⟩
              have Hlk := hide1 (turns_lt (s := s0) Hlr.out k)
              have Hnk : Shy ((turns s0 l k).length = 16) := ⟨by rw [turns_length, Hnr.out]⟩
              obtain ⟨k1, t2, k2, t3, k3, m1, m2, m3, pb, pc, pd, hpb, hpc, hpd, ek1, et2, ek2, et3, ek3, em1, em2, em3, epb, epc, epd, lk1, lt2, lk2, lt3, lk3, lpb, lpc, lpd, lpa, ipb, ipc, ipd, ipa, hki⟩ := places k s0 hlt4 hs2
              rw [← hpb, ← hpc, ← hpd] at HI
              generalize turns s0 l k = cur at *
              have HMk := hide1 hmn
              have HBk := hide1 hbe
              clear hmn hbe hpb hpc hpd
              go_upto_region 19 with (fail)
              clear ek1 et2 ek2 et3 ek3 em1 em2 em3 epb epc epd lk1 lt2 lk2 lt3 lk3
              generalize hY : World.alloc U3 _ = Y
              have yp : Y.heap[U3.heap.size]? = some (.cells #[.int .i64 (k : Int), .int .i64 (pb : Int), .int .i64 (pc : Int), .int .i64 (pd : Int)] 3 (0, 0)) := by rw [← hY]; exact heap_alloc_new _ _
              have yb : Below U3.heap.size U3 Y := by rw [← hY]; exact (Below.refl _ _).alloc (Nat.le_refl _) _
              have hgv : gv < U3.heap.size := HMk.out.lt
              have ym : Mn Y gv cur := HMk.out.to (yb.block _ hgv)
              have yw : Below B2 w7 Y := HBk.out.trans (yb.mono (by have := HGV.out; omega))
              have ysz : Y.heap.size = U3.heap.size + 1 := by rw [← hY]; exact size_alloc _ _
              obtain ⟨bp, hbp⟩ : ∃ v, v = U3.heap.size := ⟨_, rfl⟩
              rw [← hbp] at yp hgv ysz ⊢
              have cpa := ints3 Y bp k pb pc pd yp 0 (by omega)
              have cpb := ints3 Y bp k pb pc pd yp 1 (by omega)
              have cpc := ints3 Y bp k pb pc pd yp 2 (by omega)
              have cpd := ints3 Y bp k pb pc pd yp 3 (by omega)
              have cva := ym.cell (j := k) (by rw [Hnk.out]; exact lpa)
              have cvb := ym.cell (j := pb) (by rw [Hnk.out]; exact lpb)
              have cvc := ym.cell (j := pc) (by rw [Hnk.out]; exact lpc)
              have cvd := ym.cell (j := pd) (by rw [Hnk.out]; exact lpd)
              have hQ : Hid (Calls Try.prog 62 #[.int .u32 (at0 cur k : Nat), .int .u32 (at0 cur pb : Nat), .int .u32 (at0 cur pc : Nat), .int .u32 (at0 cur pd : Nat)] Y.drew fun e w' => e = .returned (.slice (some ⟨Y.heap.size + 1, 0, none⟩) 4 4) ∧ w'.heap[Y.heap.size + 1]? = some (row32 72 (qP (at0 cur k) (at0 cur pb) (at0 cur pc) (at0 cur pd))) ∧ Below Y.heap.size Y.drew w') :=
                rquarter_any (at0 cur k) (at0 cur pb) (at0 cur pc) (at0 cur pd) Y.drew (Hlk.out.at (by omega) _) (Hlk.out.at (by omega) _) (Hlk.out.at (by omega) _) (Hlk.out.at (by omega) _)
              have HSN : Shy (setN cur [k, pb, pc, pd] (qP (at0 cur k) (at0 cur pb) (at0 cur pc) (at0 cur pd)) 4 = turns s0 l (k + 1)) := ⟨by rw [turnP_setN, HI.out]⟩
              have HQL : Shy ((qP (at0 cur k) (at0 cur pb) (at0 cur pc) (at0 cur pd)).length = 4) := ⟨qP_length _ _ _ _⟩
              generalize qP (at0 cur k) (at0 cur pb) (at0 cur pc) (at0 cur pd) = ql at *
              generalize at0 cur k = va at *
              generalize at0 cur pb = vb at *
              generalize at0 cur pc = vc at *
              generalize at0 cur pd = vd at *
              have YP := hide1 yp
              have YM := hide1 ym
              have YW := hide1 yw
              have YS : Shy (Y.heap.size = bp + 1) := ⟨ysz⟩
              have HGB := hide1 hgv
              clear hY yp yb ym yw ysz hbp hgv HMk HBk HI
              refine region_f (F := [24]) (S := fun w' => (w'.cell? ⟨bp, 0, none⟩ = some (.int .i64 (k : Int)) ∧ w'.cell? ⟨bp, 1, none⟩ = some (.int .i64 (pb : Int)) ∧ w'.cell? ⟨bp, 2, none⟩ = some (.int .i64 (pc : Int)) ∧ w'.cell? ⟨bp, 3, none⟩ = some (.int .i64 (pd : Int))) ∧ w'.cell? ⟨gv, k, none⟩ = some (.int .u32 (va : Int)) ∧ w'.cell? ⟨gv, pb, none⟩ = some (.int .u32 (vb : Int)) ∧ w'.cell? ⟨gv, pc, none⟩ = some (.int .u32 (vc : Int)) ∧ w'.cell? ⟨gv, pd, none⟩ = some (.int .u32 (vd : Int))) (by kernel_rfl) ⟨⟨cpa, cpb, cpc, cpd⟩, cva, cvb, cvc, cvd⟩ (fun hS => ?_)
              refine take_p 0 83 (.slice (some ⟨gv, 0, none⟩) 16 capv) rfl rfl (by kernel_rfl) (by kernel_rfl) (by kernel_rfl) (fun _ _ _ h => h) rfl (fun w => by go_simp) ?_
              try simp only [List.setIfInBounds_toArray, List.set_cons_zero, List.set_cons_succ]
              refine take_p 1 84 (.slice (some ⟨bp, 0, none⟩) 4 4) rfl rfl (by kernel_rfl) (by kernel_rfl) (by kernel_rfl) (fun _ _ _ h => h) rfl (fun w => by go_simp) ?_
              try simp only [List.setIfInBounds_toArray, List.set_cons_zero, List.set_cons_succ]
              refine take_p 2 85 (.pointer (some ⟨bp, 0, none⟩)) rfl rfl (by kernel_rfl) (by kernel_rfl) (by kernel_rfl) (fun _ _ _ h => h) rfl (fun w => by go_simp) ?_
              try simp only [List.setIfInBounds_toArray, List.set_cons_zero, List.set_cons_succ]
              refine take_f 3 86 (.int .i64 (k : Int)) [4, 5, 24, 25] rfl rfl (by kernel_rfl) (by kernel_rfl) (by kernel_rfl) (by kernel_rfl) (by kernel_rfl) (by kernel_rfl) (fun _ _ _ h => h) rfl (fun w hSw => by have h1 := hSw.1.1; clear hSw; go_simp) hS ?_
              try simp only [List.setIfInBounds_toArray, List.set_cons_zero, List.set_cons_succ]
              refine take_p 4 87 (.pointer (some ⟨gv, k, none⟩)) rfl rfl (by kernel_rfl) (by kernel_rfl) (by kernel_rfl) (fun _ _ _ h => h) rfl (fun w => by go_simp) ?_
              try simp only [List.setIfInBounds_toArray, List.set_cons_zero, List.set_cons_succ]
              refine take_f 5 88 (.int .u32 (va : Int)) [24, 25] rfl rfl (by kernel_rfl) (by kernel_rfl) (by kernel_rfl) (by kernel_rfl) (by kernel_rfl) (by kernel_rfl) (fun _ _ _ h => h) rfl (fun w hSw => by have h1 := hSw.2.1; clear hSw; go_simp) hS ?_
              try simp only [List.setIfInBounds_toArray, List.set_cons_zero, List.set_cons_succ]
              refine take_p 6 89 (.slice (some ⟨gv, 0, none⟩) 16 capv) rfl rfl (by kernel_rfl) (by kernel_rfl) (by kernel_rfl) (fun _ _ _ h => h) rfl (fun w => by go_simp) ?_
              try simp only [List.setIfInBounds_toArray, List.set_cons_zero, List.set_cons_succ]
              refine take_p 7 90 (.slice (some ⟨bp, 0, none⟩) 4 4) rfl rfl (by kernel_rfl) (by kernel_rfl) (by kernel_rfl) (fun _ _ _ h => h) rfl (fun w => by go_simp) ?_
              try simp only [List.setIfInBounds_toArray, List.set_cons_zero, List.set_cons_succ]
              refine take_p 8 91 (.pointer (some ⟨bp, 1, none⟩)) rfl rfl (by kernel_rfl) (by kernel_rfl) (by kernel_rfl) (fun _ _ _ h => h) rfl (fun w => by go_simp) ?_
              try simp only [List.setIfInBounds_toArray, List.set_cons_zero, List.set_cons_succ]
              refine take_f 9 92 (.int .i64 (pb : Int)) [10, 11, 24, 25] rfl rfl (by kernel_rfl) (by kernel_rfl) (by kernel_rfl) (by kernel_rfl) (by kernel_rfl) (by kernel_rfl) (fun _ _ _ h => h) rfl (fun w hSw => by have h1 := hSw.1.2.1; clear hSw; go_simp) hS ?_
              try simp only [List.setIfInBounds_toArray, List.set_cons_zero, List.set_cons_succ]
              refine take_p 10 93 (.pointer (some ⟨gv, pb, none⟩)) rfl rfl (by kernel_rfl) (by kernel_rfl) (by kernel_rfl) (fun _ _ _ h => h) rfl (fun w => by go_simp) ?_
              try simp only [List.setIfInBounds_toArray, List.set_cons_zero, List.set_cons_succ]
              refine take_f 11 94 (.int .u32 (vb : Int)) [24, 25] rfl rfl (by kernel_rfl) (by kernel_rfl) (by kernel_rfl) (by kernel_rfl) (by kernel_rfl) (by kernel_rfl) (fun _ _ _ h => h) rfl (fun w hSw => by have h1 := hSw.2.2.1; clear hSw; go_simp) hS ?_
              try simp only [List.setIfInBounds_toArray, List.set_cons_zero, List.set_cons_succ]
              refine take_p 12 95 (.slice (some ⟨gv, 0, none⟩) 16 capv) rfl rfl (by kernel_rfl) (by kernel_rfl) (by kernel_rfl) (fun _ _ _ h => h) rfl (fun w => by go_simp) ?_
              try simp only [List.setIfInBounds_toArray, List.set_cons_zero, List.set_cons_succ]
              refine take_p 13 96 (.slice (some ⟨bp, 0, none⟩) 4 4) rfl rfl (by kernel_rfl) (by kernel_rfl) (by kernel_rfl) (fun _ _ _ h => h) rfl (fun w => by go_simp) ?_
              try simp only [List.setIfInBounds_toArray, List.set_cons_zero, List.set_cons_succ]
              refine take_p 14 97 (.pointer (some ⟨bp, 2, none⟩)) rfl rfl (by kernel_rfl) (by kernel_rfl) (by kernel_rfl) (fun _ _ _ h => h) rfl (fun w => by go_simp) ?_
              try simp only [List.setIfInBounds_toArray, List.set_cons_zero, List.set_cons_succ]
              refine take_f 15 98 (.int .i64 (pc : Int)) [16, 17, 24, 25] rfl rfl (by kernel_rfl) (by kernel_rfl) (by kernel_rfl) (by kernel_rfl) (by kernel_rfl) (by kernel_rfl) (fun _ _ _ h => h) rfl (fun w hSw => by have h1 := hSw.1.2.2.1; clear hSw; go_simp) hS ?_
              try simp only [List.setIfInBounds_toArray, List.set_cons_zero, List.set_cons_succ]
              refine take_p 16 99 (.pointer (some ⟨gv, pc, none⟩)) rfl rfl (by kernel_rfl) (by kernel_rfl) (by kernel_rfl) (fun _ _ _ h => h) rfl (fun w => by go_simp) ?_
              try simp only [List.setIfInBounds_toArray, List.set_cons_zero, List.set_cons_succ]
              refine take_f 17 100 (.int .u32 (vc : Int)) [24, 25] rfl rfl (by kernel_rfl) (by kernel_rfl) (by kernel_rfl) (by kernel_rfl) (by kernel_rfl) (by kernel_rfl) (fun _ _ _ h => h) rfl (fun w hSw => by have h1 := hSw.2.2.2.1; clear hSw; go_simp) hS ?_
              try simp only [List.setIfInBounds_toArray, List.set_cons_zero, List.set_cons_succ]
              refine take_p 18 101 (.slice (some ⟨gv, 0, none⟩) 16 capv) rfl rfl (by kernel_rfl) (by kernel_rfl) (by kernel_rfl) (fun _ _ _ h => h) rfl (fun w => by go_simp) ?_
              try simp only [List.setIfInBounds_toArray, List.set_cons_zero, List.set_cons_succ]
              refine take_p 19 102 (.slice (some ⟨bp, 0, none⟩) 4 4) rfl rfl (by kernel_rfl) (by kernel_rfl) (by kernel_rfl) (fun _ _ _ h => h) rfl (fun w => by go_simp) ?_
              try simp only [List.setIfInBounds_toArray, List.set_cons_zero, List.set_cons_succ]
              refine take_p 20 103 (.pointer (some ⟨bp, 3, none⟩)) rfl rfl (by kernel_rfl) (by kernel_rfl) (by kernel_rfl) (fun _ _ _ h => h) rfl (fun w => by go_simp) ?_
              try simp only [List.setIfInBounds_toArray, List.set_cons_zero, List.set_cons_succ]
              refine take_f 21 104 (.int .i64 (pd : Int)) [22, 23, 24, 25] rfl rfl (by kernel_rfl) (by kernel_rfl) (by kernel_rfl) (by kernel_rfl) (by kernel_rfl) (by kernel_rfl) (fun _ _ _ h => h) rfl (fun w hSw => by have h1 := hSw.1.2.2.2; clear hSw; go_simp) hS ?_
              try simp only [List.setIfInBounds_toArray, List.set_cons_zero, List.set_cons_succ]
              refine take_p 22 105 (.pointer (some ⟨gv, pd, none⟩)) rfl rfl (by kernel_rfl) (by kernel_rfl) (by kernel_rfl) (fun _ _ _ h => h) rfl (fun w => by go_simp) ?_
              try simp only [List.setIfInBounds_toArray, List.set_cons_zero, List.set_cons_succ]
              refine take_f 23 106 (.int .u32 (vd : Int)) [24, 25] rfl rfl (by kernel_rfl) (by kernel_rfl) (by kernel_rfl) (by kernel_rfl) (by kernel_rfl) (by kernel_rfl) (fun _ _ _ h => h) rfl (fun w hSw => by have h1 := hSw.2.2.2.2; clear hSw; go_simp) hS ?_
              try simp only [List.setIfInBounds_toArray, List.set_cons_zero, List.set_cons_succ]
              refine ready_f 24 (o := { dst := some 107, op := Op.call { callee := Callee.value (Operand.func 62), args := #[Operand.tmp 88, Operand.tmp 94, Operand.tmp 100, Operand.tmp 106], argTypes := #[72, 72, 72, 72] }, type := 92, pos := "ref.go:70", after := #[{ on := 5, ground := Ground.data }, { on := 11, ground := Ground.data }, { on := 17, ground := Ground.data }, { on := 23, ground := Ground.data }], guard := none }) (by kernel_rfl) rfl (fun K hK => ?_)
              go_simp
              refine hQ.out.mono ?_
              rintro e wq ⟨rfl, hq1, hq2⟩
              refine hK.out _ _ (fun h => absurd (by decide) h) ?_
              clear hK K
              try simp only [Act.put, List.setIfInBounds_toArray, List.set_cons_zero, List.set_cons_succ]
              refine take_p 25 16 (.slice (some ⟨Y.heap.size + 1, 0, none⟩) 4 4) rfl rfl (by kernel_rfl) (by kernel_rfl) (by kernel_rfl) (fun _ _ _ h => h) rfl (fun w => by go_simp) ?_
              try simp only [List.setIfInBounds_toArray, List.set_cons_zero, List.set_cons_succ]
              refine done_f (by kernel_rfl) ?_ _
              clear cpa cpb cpc cpd cva cvb cvc cvd hS hQ
              have hq2' : Below Y.heap.size Y wq := (Below.refl _ _).drew.trans hq2
              have qp : wq.heap[bp]? = some (.cells #[.int .i64 (k : Int), .int .i64 (pb : Int), .int .i64 (pc : Int), .int .i64 (pd : Int)] 3 (0, 0)) := (hq2'.block _ (by rw [YS.out]; omega)).trans YP.out
              have qm : Mn wq gv cur := YM.out.to (hq2'.block _ (by rw [YS.out]; have := HGB.out; omega))
              have qw : Below B2 w7 wq := YW.out.trans (hq2'.mono (by rw [YS.out]; have := HGB.out; have := HGV.out; omega))
              have qq : wq.heap[Y.heap.size + 1]? = some (row32 72 ql) := hq1
              have hszq : Y.heap.size + 1 < wq.heap.size := lt_heap qq
              have hne : Y.heap.size + 1 ≠ gv := by rw [YS.out]; have := HGB.out; omega
              obtain ⟨bq, hbq⟩ : ∃ v, v = Y.heap.size + 1 := ⟨_, rfl⟩
              rw [← hbq] at qq hszq hne ⊢
              have QP := hide1 qp
              have QM := hide1 qm
              have QW := hide1 qw
              have QQ := hide1 qq
              have HNE := hide1 hne
              have HSQ := hide1 hszq
              have HBPQ : Hid (bp < wq.heap.size) := lt_heap qp
              have HNP : Hid (bp ≠ gv) := by show _ ≠ _; have := HGB.out; omega
              clear hq1 hq2 hq2' qp qm qw qq hszq hne hbq YP YM YW YS
              go_wp2
              go_loopw [17] (fun i wr => ∃ j : Nat, j ≤ 4 ∧ i = .int .i64 j ∧ Mn wr gv (setN cur [k, pb, pc, pd] ql j) ∧ But gv wq wr) (fun i _ => 4 - (intOf i).toNat)
              case atStart => exact ⟨0, Nat.zero_le _, rfl, QM.out, But.refl _ _⟩
              case round =>
                obtain ⟨j, hj, rfl, hmn, hbut⟩ := hrel
                by_cases hltj : j < 4
                · have cp := ints3 wr bp k pb pc pd ((hbut.block _ HBPQ.out HNP.out).trans QP.out) j hltj
                  have cq := cell32 ((hbut.block _ HSQ.out HNE.out).trans QQ.out) (j := j) (by rw [HQL.out]; exact hltj)
                  have hpj : at0 [k, pb, pc, pd] j < 16 := by
                    match j, hltj with
                    | 0, _ => exact lpa
                    | 1, _ => exact lpb
                    | 2, _ => exact lpc
                    | 3, _ => exact lpd
                  have HSj : Shy (setN cur [k, pb, pc, pd] ql (j + 1) = (setN cur [k, pb, pc, pd] ql j).set (at0 [k, pb, pc, pd] j) (at0 ql j)) := ⟨rfl⟩
                  generalize at0 [k, pb, pc, pd] j = pj at *
                  generalize at0 ql j = qj at *
                  have cv := hmn.cell (j := pj) (by rw [setN_length, Hnk.out]; exact hpj)
                  have fv := hmn.frozen pj
                  have ipj : (pj : Int) < 16 := by omega
                  have ij4 : (j : Int) < 4 := by omega
                  have HMj := hide1 hmn
                  have HUj := hide1 hbut
                  clear hmn hbut hpj
                  go_upto_region 23 with (fail)
                  refine region_f (F := [10]) (S := fun w' => w'.cell? ⟨bp, j, none⟩ = some (.int .i64 (pj : Int)) ∧ w'.cell? ⟨bq, j, none⟩ = some (.int .u32 (qj : Int))) (by kernel_rfl) ⟨cp, cq⟩ (fun hS => ?_)
                  refine take_p 0 112 (.slice (some ⟨gv, 0, none⟩) 16 capv) rfl rfl (by kernel_rfl) (by kernel_rfl) (by kernel_rfl) (fun _ _ _ h => h) rfl (fun w => by go_simp) ?_
                  try simp only [List.setIfInBounds_toArray, List.set_cons_zero, List.set_cons_succ]
                  refine take_p 1 113 (.slice (some ⟨bp, 0, none⟩) 4 4) rfl rfl (by kernel_rfl) (by kernel_rfl) (by kernel_rfl) (fun _ _ _ h => h) rfl (fun w => by go_simp) ?_
                  try simp only [List.setIfInBounds_toArray, List.set_cons_zero, List.set_cons_succ]
                  refine take_p 2 114 (.int .i64 (j : Int)) rfl rfl (by kernel_rfl) (by kernel_rfl) (by kernel_rfl) (fun _ _ _ h => h) rfl (fun w => by go_simp) ?_
                  try simp only [List.setIfInBounds_toArray, List.set_cons_zero, List.set_cons_succ]
                  refine take_p 3 115 (.pointer (some ⟨bp, j, none⟩)) rfl rfl (by kernel_rfl) (by kernel_rfl) (by kernel_rfl) (fun _ _ _ h => h) rfl (fun w => by go_simp) ?_
                  try simp only [List.setIfInBounds_toArray, List.set_cons_zero, List.set_cons_succ]
                  refine take_f 4 116 (.int .i64 (pj : Int)) [9, 10] rfl rfl (by kernel_rfl) (by kernel_rfl) (by kernel_rfl) (by kernel_rfl) (by kernel_rfl) (by kernel_rfl) (fun _ _ _ h => h) rfl (fun w hSw => by have h1 := hSw.1; clear hSw; go_simp) hS ?_
                  try simp only [List.setIfInBounds_toArray, List.set_cons_zero, List.set_cons_succ]
                  refine take_p 5 117 (.slice (some ⟨bq, 0, none⟩) 4 4) rfl rfl (by kernel_rfl) (by kernel_rfl) (by kernel_rfl) (fun _ _ _ h => h) rfl (fun w => by go_simp) ?_
                  try simp only [List.setIfInBounds_toArray, List.set_cons_zero, List.set_cons_succ]
                  refine take_p 6 118 (.int .i64 (j : Int)) rfl rfl (by kernel_rfl) (by kernel_rfl) (by kernel_rfl) (fun _ _ _ h => h) rfl (fun w => by go_simp) ?_
                  try simp only [List.setIfInBounds_toArray, List.set_cons_zero, List.set_cons_succ]
                  refine take_p 7 119 (.pointer (some ⟨bq, j, none⟩)) rfl rfl (by kernel_rfl) (by kernel_rfl) (by kernel_rfl) (fun _ _ _ h => h) rfl (fun w => by go_simp) ?_
                  try simp only [List.setIfInBounds_toArray, List.set_cons_zero, List.set_cons_succ]
                  refine take_f 8 120 (.int .u32 (qj : Int)) [9, 10] rfl rfl (by kernel_rfl) (by kernel_rfl) (by kernel_rfl) (by kernel_rfl) (by kernel_rfl) (by kernel_rfl) (fun _ _ _ h => h) rfl (fun w hSw => by have h1 := hSw.2; clear hSw; go_simp) hS ?_
                  try simp only [List.setIfInBounds_toArray, List.set_cons_zero, List.set_cons_succ]
                  refine take_p 9 121 (.pointer (some ⟨gv, pj, none⟩)) rfl rfl (by kernel_rfl) (by kernel_rfl) (by kernel_rfl) (fun _ _ _ h => h) rfl (fun w => by go_simp) ?_
                  try simp only [List.setIfInBounds_toArray, List.set_cons_zero, List.set_cons_succ]
                  refine ready_f 10 (o := { dst := none, op := Op.store 72 (Operand.tmp 121) (Operand.tmp 120), type := 0, pos := "ref.go:72", after := #[{ on := 9, ground := Ground.data }, { on := 8, ground := Ground.data }, { on := 0, ground := Ground.phase }, { on := 1, ground := Ground.phase }, { on := 2, ground := Ground.phase }, { on := 3, ground := Ground.phase }, { on := 4, ground := Ground.phase }, { on := 5, ground := Ground.phase }, { on := 6, ground := Ground.phase }, { on := 7, ground := Ground.phase }, { on := 8, ground := Ground.phase }], guard := none }) (by kernel_rfl) rfl (fun K hK => ?_)
                  go_simp
                  refine hK.out _ _ (fun h => absurd (by decide) h) ?_
                  clear hK K
                  refine done_f (by kernel_rfl) ?_ _
                  clear hS cp cq cv fv
                  go_wp2
                  go_roundw
                  case rel =>
                    refine ⟨j + 1, by omega, by go_num, ?_, ?_⟩
                    · rw [HSj.out]
                      exact (HMj.out.set pj qj).to rfl
                    · exact HUj.out.trans (But.set gv pj wr _).drew
                  case measure => simp [intOf]; omega
                · have : j = 4 := by omega
                  subst this
                  rw [HSN.out] at hmn
                  have HMj := hide1 hmn
                  have HBj := hide1 (hbut.below QW.out HGV.out (by have := HGV.out; have := QM.out.lt; omega))
                  clear hmn hbut
                  rw [show ((4 : Nat) : Int) = 4 from rfl]
                  go_wp2
                  go_roundw
                  case rel => exact ⟨k + 1, by omega, by go_num, HMj.out, HBj.out⟩
                  case measure => simp [intOf]; omega
            · have : k = 4 := by omega
              subst this
              rw [← HHr.out] at hmn
              have HMk := hide1 hmn
              have HBk := hide1 hbe
              clear hmn hbe
              rw [show ((4 : Nat) : Int) = 4 from rfl]
              go_wp2
              go_roundw
              case rel => exact ⟨r + 1, by omega, by go_num, HMk.out, HBk.out⟩
              case measure => simp [intOf]; omega
        · have : r = 20 := by omega
          subst this
          have hmg : Mn wr g6 L := HMG.out.to (hbe.block _ HG6.out)
          have hbw : Below w.heap.size w wr := HW7.out.trans (hbe.mono HBW.out)
          obtain ⟨U, hU⟩ : ∃ U, U = wr := ⟨_, rfl⟩
          subst hU
          have HMv := hide1 hmn
          have HMg := hide1 hmg
          have HBU := hide1 hbw
          have HR10 : Shy (halves L 20 = rounds L 10) := ⟨halves_rounds L 10⟩
          have HRl : Shy ((rounds L 10).length = 16) := ⟨by rw [rounds_length, HLl.out]⟩
          rw [HR10.out] at HMv
          have HSum : Shy (∀ k, sumW L k = (at0 (rounds L 10) k + at0 L k) % 4294967296) := ⟨fun k => rfl⟩
          generalize rounds L 10 = Lr at *
          clear hmn hmg hbw hbe HR10 hi hz0 hz1 hz2
          rw [show ((20 : Nat) : Int) = 20 from rfl]
          obtain ⟨i5, hi, hz0, hz1, hz2⟩ := info_of info5
          go_wp2
          go_loopw [18, 19] (fun v18 i wr => ∃ k n : Nat, k ≤ 16 ∧ n = 4 * k ∧ i = .int .i64 k ∧ (∃ a c, v18 = .slice a n c) ∧ wr.ownsRow U.heap.size 5 1 v18 n (u8s (outR L k)) ∧ Below U.heap.size U wr) (fun _ i _ => 16 - (intOf i).toNat)
          case atStart => exact ⟨0, 0, Nat.zero_le _, rfl, rfl, ⟨none, 0, rfl⟩, World.ownsRow_nil _ _ _ _, Below.refl _ _⟩
          case round =>
            obtain ⟨k, n, hk, hn, rfl, ⟨a18, c18, rfl⟩, hro, hbe⟩ := hrel
            by_cases hlt : k < 16
            · have cv := (HMv.out.to (hbe.block _ HMv.out.lt)).cell (j := k) (by rw [HRl.out]; exact hlt)
              have cg := (HMg.out.to (hbe.block _ HMg.out.lt)).cell (j := k) (by rw [HLl.out]; exact hlt)
              have ex : IntKind.u32.wrap ((at0 Lr k : Nat) + (at0 L k : Nat) : Int) = (sumW L k : Nat) := by rw [HSum.out]; exact wrap32_add _ _
              have hx : sumW L k < 4294967296 := by rw [HSum.out]; exact Nat.mod_lt _ (by omega)
              have HOk : Shy (outR L (k + 1) = outR L k ++ bytesLE (sumW L k)) := ⟨rfl⟩
              generalize sumW L k = x at *
              generalize at0 Lr k = v at *
              generalize at0 L k = u at *
              obtain ⟨y0, hy0⟩ : ∃ v, v = x % 256 := ⟨_, rfl⟩
              obtain ⟨y1, hy1⟩ : ∃ v, v = x / 256 % 256 := ⟨_, rfl⟩
              obtain ⟨y2, hy2⟩ : ∃ v, v = x / 65536 % 256 := ⟨_, rfl⟩
              obtain ⟨y3, hy3⟩ : ∃ v, v = x / 16777216 % 256 := ⟨_, rfl⟩
              have e0 : (x : Int) % 256 = (y0 : Int) := by omega
              have e1 : (x : Int) / 256 % 256 = (y1 : Int) := by omega
              have e2 : (x : Int) / 65536 % 256 = (y2 : Int) := by omega
              have e3 : (x : Int) / 16777216 % 256 = (y3 : Int) := by omega
              have e3' : (x : Int) / 16777216 = (y3 : Int) := by omega
              have f0 : IntKind.u8.wrap (x : Int) = (y0 : Int) := by rw [IntKind.wrap_u8, e0]
              have f1 : IntKind.u8.wrap ((x : Int) / 256) = (y1 : Int) := by rw [IntKind.wrap_u8, e1]
              have f2 : IntKind.u8.wrap ((x : Int) / 65536) = (y2 : Int) := by rw [IntKind.wrap_u8, e2]
              have f3 : IntKind.u8.wrap (y3 : Int) = (y3 : Int) := by rw [IntKind.wrap_u8]; omega
              have HBy : Shy (bytesLE x = [y0, y1, y2, y3]) := ⟨by rw [bytesLE, hy0, hy1, hy2, hy3]⟩
              clear hy0 hy1 hy2 hy3
              have hki : (k : Int) < 16 := by omega
              have HRO := hide1 hro
              have HE := hide1 hbe
              have Hn : Shy (n = 4 * k) := ⟨hn⟩
              have hn60 : n ≤ 60 := by omega
              clear hro hbe hn
              go_upto_region 28 with (fail)
              go_quiet (fail)
              obtain ⟨X, hX⟩ : ∃ X, wr.drewN nq = X := ⟨_, rfl⟩
              have xo : X.ownsRow U.heap.size 5 1 (.slice a18 n c18) n (u8s (outR L k)) := by rw [← hX]; exact own_heap (w := wr) rfl HRO.out
              have xb : Below U.heap.size U X := by rw [← hX]; exact below_drewN' HE.out _
              rw [hX]
              have XO := hide1 xo
              have XB := hide1 xb
              clear hX xo xb cv cg HRO HE
              go_wp2_with (first
                | (at_builtin; go_must (refine wpList_append_lies _ rfl (.tmp 135) (.tmp 147) 88 rfl U.heap.size 5 i5 (.int .u8 0) 1 1 Try.underlying88 hi hz0 hz1 hz2 rfl (by decide) (.slice a18 n c18) n (u8s (outR L k)) rfl (XO.out.alloc _) ⟨X.heap.size, 0, none⟩ 4 4 (u8s [y0, y1, y2, y3]) rfl rfl (World.news_of_block (heap_alloc_new X (row8 5 [y0, y1, y2, y3]))) (u8s_one _) (by omega) (by unfold maxLen; omega) (by omega) (by have := XB.out.size; rw [size_alloc]; omega) _ rfl ?_; intro g8 cap8 w8 ro8 gr8 wh8 lt8))
                | fail)
              rw [show u8s (outR L k) ++ u8s [y0, y1, y2, y3] = u8s (outR L (k + 1)) by rw [HOk.out, HBy.out]; simp [u8s]] at ro8
              have hb8 : Below U.heap.size U w8 := (XB.out.alloc XB.out.size _).grown gr8 (by rw [size_alloc]; have := XB.out.size; omega) (fun k hk => (XO.out.lt k hk).1)
              have RO8 := hide1 ro8
              have HB8 := hide1 hb8
              clear ro8 hb8 gr8 wh8 lt8
              go_wp2
              go_roundw
              case rel =>
                exact ⟨k + 1, n + 4, by omega, by have := Hn.out; omega, by go_num, ⟨_, _, rfl⟩, RO8.out, HB8.out⟩
              case measure => simp [intOf]; omega
            · have : k = 16 := by omega
              subst this
              obtain rfl : n = 64 := by omega
              rw [← HBP.out] at hro
              have h64 : (blockP kl (nums s) c).length = 64 := blockP_length _ _ _
              rcases hro.2 with ⟨_, h0⟩ | ⟨g9, cap9, cur9, hv9, _⟩
              · omega
              · cases hv9
                have hcv2 := conv_own h64 hro
                obtain ⟨ty, hty⟩ : ∃ ty, ty = txt (blockP kl (nums s) c) := ⟨_, rfl⟩
                rw [← hty] at hcv2
                have HTY : Shy (ty = txt (blockP kl (nums s) c)) := ⟨hty⟩
                have HBF := hide1 (HBU.out.trans (hbe.mono HBU.out.size))
                clear hro h64 hty hbe hn
                rw [show ((16 : Nat) : Int) = 16 from rfl]
                go_wp2
                go_ret2
                exact ⟨by rw [← HTY.out]; rfl, HBF.out⟩

end Go.Proofs.Ytdmodknjcdkocaa.Pg
