/- The walk of PrgJoins. -/
import Derived.Test.YtldopgngbnjlnaaRi
import Derived.Test.YtldopgngbnjlnaaVL
namespace Go.Proofs.Ytldopgngbnjlnaa
open Go.RowKit
set_option maxRecDepth 100000
attribute [local go_sem] not_any

theorem row_form {w : World} {base : Nat} {e : TypeId} {size n : Nat} {v : Value} {xs : List Value} (h : w.ownsRow base e size v n xs) : ∃ a c, v = .slice a n c := by
  rcases h.2 with ⟨rfl, rfl⟩ | ⟨g, cap, cur, rfl, _⟩
  · exact ⟨_, _, rfl⟩
  · exact ⟨_, _, rfl⟩
theorem bl_news {w : World} {n g o : Nat} {l : List Bool} (h : V.Bl w n (some ⟨g, o, none⟩) l) : ∀ j u, (V.bools l)[j]? = some u → w.cell? ((⟨g, o, none⟩ : Addr).add j) = some u := by
  intro j u hu
  simp only [V.bools, List.getElem?_map, Option.map_eq_some_iff] at hu
  obtain ⟨x, hx, rfl⟩ := hu
  obtain ⟨g', o', e, hc⟩ := h.at' j x hx
  cases e
  rw [Addr.add_lit]
  exact hc
theorem own_none (w : World) (base : Nat) (hb : base ≤ w.heap.size) : (w.alloc (.cells #[] 4)).ownsRow base 4 1 (.slice (some ⟨w.heap.size, 0, none⟩) 0 0) 0 (V.bools []) :=
  ⟨rfl, .inr ⟨w.heap.size, 0, #[], rfl, hb, heap_alloc_new _ _, Nat.le_refl _, by unfold maxLen; omega, rfl, rfl⟩⟩

/- truths put behind a row of the call's own -/
theorem run_append_empty {P : Program} {w : World} (base : Nat) (t ty e : TypeId) (i : TypeInfo) (size : Nat) (ht : P.underlying t = some (.slice e)) (hi : P.info? e = some i)
    (v : Value) (n : Nat) (xs : List Value) (hown : w.ownsRow base e size v n xs) (a : Option Addr) (c : Nat) :
    (Builtin.append_ #[t, t] ty #[v, .slice a 0 c]).run P w = .ok v w := by
  have hl : ∀ (x : Addr), (loadCells x 0).run P w = .ok #[] w := fun x => by simpa using run_loadCells_list (P := P) w x [] (by simp)
  rcases hown.2 with ⟨rfl, rfl⟩ | ⟨g, cap, cur, rfl, _, _, hnc, _⟩
  · cases a <;> simp [Builtin.append_, run_underlying ht, sizeOf, typeInfo, hi, Builtin.lenOf, Builtin.firstCells, hl]
  · cases a <;> simp [Builtin.append_, run_underlying ht, sizeOf, typeInfo, hi, Builtin.lenOf, Builtin.firstCells, hnc, storeCells, hl]
theorem step_append_bl {w : World} {ops : Array Oper} {o : Oper} {act : Act} {K : Act → World → Prop} {Q : Exit → Act → World → Prop} {E : Prop} (hgd : o.guard = none) (s x : Operand)
    (ho : o.op = .call { callee := .builtin .append, args := #[s, x], argTypes := #[40, 40] })
    (base : Nat) (v : Value) (n : Nat) (xs : List Bool) (hs : act.eval s = v) (hown : w.ownsRow base 4 1 v n (V.bools xs)) (a : Option Addr) (m c : Nat) (l : List Bool) (hx : act.eval x = .slice a m c) (hl : V.Bl w m a l)
    (hle : n + m ≤ 4000) (hbase : base ≤ w.heap.size)
    (h : ∀ v' w', w'.ownsRow base 4 1 v' (n + m) (V.bools (xs ++ l)) → w.grownBy w' v.ownBlock → K (act.put o.dst v') w') :
    if Region.wanted o (yielded ops act.tmps) = true then Oper.wp Try.prog o act w K Q else E := by
  obtain ⟨i0, hi, hz0, hz1, hz2⟩ := info_of info4
  by_cases h0 : m = 0
  · subst h0
    obtain rfl : l = [] := List.eq_nil_of_length_eq_zero hl.len
    have hw : Region.wanted o (yielded ops act.tmps) = true := by simp [Region.wanted, hgd]
    rw [if_pos hw]
    have hrun := run_append_empty (P := Try.prog) (w := w) base 40 o.type 4 i0 1 Try.underlying40 hi v n _ hown a c
    unfold Oper.wp
    simp [execOp, ho, resolve, invoke, builtin, hs, hx, hrun, Result.andThen]
    exact h v w (by simpa using hown) (World.grownBy.refl _ _)
  · obtain ⟨y, hy⟩ : ∃ y, l[0]? = some y := ⟨_, List.getElem?_eq_getElem (by rw [hl.len]; omega)⟩
    obtain ⟨g, off, rfl, _⟩ := hl.at' 0 y hy
    refine step_append_lies w hgd s x 40 ho base 4 i0 (.bool false) 1 1 Try.underlying40 hi hz0 hz1 hz2 rfl (by decide) v n _ hs hown ⟨g, off, none⟩ m c (V.bools l) hx (by simp [V.bools, hl.len]) (bl_news hl) (bools_one l) (by omega) (by unfold maxLen; omega) (by omega) hbase _ rfl ?_
    intro g' cap' w' h1 h2 _ _
    exact h _ w' (by simpa [V.bools] using h1) h2

/- one of two may come up -/
theorem ready2_f {P : Program} {ops : Array Oper} {Q : Exit → Act → World → Prop} {md : Region.Mode} {S : World → Prop} {F : List Nat} (i j : Nat) {o o' : Oper} {fuel : Nat} {listed : Array Bool} {a : Act} {w : World} (hr : Region.ready md ops listed = [i, j]) (ho : ops[i]? = some o) (ho' : ops[j]? = some o')
    (h : ∀ K : Act → World → Prop, Shut (∀ a' w', (i ∉ F → S w → S w') → wpAnyF P md ops Q S F fuel (listed.setIfInBounds i true) a' w' → K a' w') → if Region.wanted o (yielded ops a.tmps) = true then Oper.wp P o a w K Q else K (a.put o.dst undef) w)
    (h' : ∀ K : Act → World → Prop, Shut (∀ a' w', (j ∉ F → S w → S w') → wpAnyF P md ops Q S F fuel (listed.setIfInBounds j true) a' w' → K a' w') → if Region.wanted o' (yielded ops a.tmps) = true then Oper.wp P o' a w K Q else K (a.put o'.dst undef) w) :
    wpAnyF P md ops Q S F (fuel + 1) listed a w := by
  refine ⟨fun h0 => (by rw [hr] at h0; cases h0), ?_⟩
  intro k hk
  rw [hr] at hk
  rcases List.mem_cons.1 hk with e | hk
  · rw [e]
    exact wpOp_step ho (fun K hK => h K (fun a w hS hW => hK a w ⟨hS, hW⟩))
  · have e : k = j := by simpa using hk
    rw [e]
    exact wpOp_step ho' (fun K hK => h' K (fun a w hS hW => hK a w ⟨hS, hW⟩))

theorem byt_join (kl : List Nat) (x F A B : Nat) : byt kl x F A ++ byt kl x (F + A) B = byt kl x F (A + B) := by
  refine at0_ext (by rw [List.length_append, byt_length, byt_length, byt_length]) (fun i hi => ?_)
  rw [List.length_append, byt_length, byt_length] at hi
  rw [byt_at hi]
  by_cases h : i < A
  · rw [at0_append_left (by rw [byt_length]; exact h), byt_at h]
  · rw [at0_append_right (by rw [byt_length]; omega), byt_length, byt_at (by omega)]
    congr 1
    omega
theorem bts_join (kl : List Nat) (x F A : Nat) : ∀ B, bts kl x F A ++ bts kl x (F + A) B = bts kl x F (A + B)
  | 0 => by simp [bts]
  | B + 1 => by rw [bts_succ, ← List.append_assoc, bts_join kl x F A B, ← Nat.add_assoc, bts_succ, Nat.add_assoc]

set_option maxHeartbeats 16000000 in
theorem joins_all (W : World) (kl : List Nat) (x M A B : Nat) (hk : kl.length = 32) (bk : Lt 256 kl) (hx : x < 4294967296) (hM : M < 65536) (hA : A < 256) (hB : B < 256) :
    Calls Try.prog 7 #[arr8 kl, .int .u32 (x : Int), .int .u16 (M : Int), .int .u8 (A : Int), .int .u8 (B : Int)] W fun e w' => e = .returned (.bool true) ∧ Below W.heap.size W w' := by
  obtain ⟨MA, hMA⟩ : ∃ v, v = M + A := ⟨_, rfl⟩
  obtain ⟨AB, hABd⟩ : ∃ v, v = A + B := ⟨_, rfl⟩
  have k1 := fun w => hide1 (bytes_yes kl x M A w hk bk hx (by omega) (by omega))
  have k2 := fun w => hide1 (bytes_yes kl x MA B w hk bk hx (by omega) (by omega))
  have k3 := fun w => hide1 (bytes_yes kl x M AB w hk bk hx (by omega) (by omega))
  have k4 := fun w => hide1 (bits_yes kl x M A w hk bk hx (by omega) (by omega))
  have k5 := fun w => hide1 (bits_yes kl x MA B w hk bk hx (by omega) (by omega))
  have k6 := fun w => hide1 (bits_yes kl x M AB w hk bk hx (by omega) (by omega))
  have s1 : (txt (byt kl x M A)).size = A := by rw [txt_size (byt_lt _ _ _ _), byt_length]
  have s2 : (txt (byt kl x MA B)).size = B := by rw [txt_size (byt_lt _ _ _ _), byt_length]
  have s3 : (txt (byt kl x M AB)).size = AB := by rw [txt_size (byt_lt _ _ _ _), byt_length]
  have hcat : txt (byt kl x M A) ++ txt (byt kl x MA B) = txt (byt kl x M AB) := by
    apply nums_inj
    rw [nums_append, nums_txt (byt_lt _ _ _ _), nums_txt (byt_lt _ _ _ _), nums_txt (byt_lt _ _ _ _), hMA, hABd, byt_join]
  have HCatB : Shy (bts kl x M A ++ bts kl x MA B = bts kl x M AB) := ⟨by rw [hMA, hABd, bts_join]⟩
  have HLW : Shy ((bts kl x M AB).length = AB) := ⟨bts_length _ _ _ _⟩
  have HLU : Shy ((bts kl x M A).length = A) := ⟨bts_length _ _ _ _⟩
  have HLV : Shy ((bts kl x MA B).length = B) := ⟨bts_length _ _ _ _⟩
  have Hz : Hid ((u8s kl).toArray.size = 32) := by show _ = _; simp [u8s, hk]
  generalize txt (byt kl x M A) = tp at *
  generalize txt (byt kl x MA B) = tq at *
  generalize txt (byt kl x M AB) = tr at *
  generalize bts kl x M A = lu at *
  generalize bts kl x MA B = lv at *
  generalize bts kl x M AB = lw at *
  have HAB : Shy (A ≤ 4194304 ∧ B ≤ 4194304 ∧ A + B = AB ∧ A < 256 ∧ B < 256) := ⟨⟨by omega, by omega, hABd.symm, hA, hB⟩⟩
  have HO : Hid (∀ (w : World) (n : Nat) (a : Option Addr) (l : List Bool), V.Vc 0 w n a l → n ≤ 4194304 → Calls Try.prog 18 #[.agg #[.int .i64 (n : Int), .slice a (V.need n 64) (V.need n 64)]] w fun e w' => ∃ a', e = .returned (.slice a' n n) ∧ V.Bl w' n a' l ∧ Below w.heap.size w w') := fun w n a l hv hn => V.bools_any 0 w n a l hv hn
  have e1 : (M : Int) + (A : Int) = (MA : Int) := by omega
  have e2 : (A : Int) + (B : Int) = (AB : Int) := by omega
  have bM : (M : Int) < 65536 := by omega
  have bA : (A : Int) < 256 := by omega
  have bB : (B : Int) < 256 := by omega
  have bMA : (MA : Int) < 70000 := by omega
  have bAB : (AB : Int) < 600 := by omega
  unfold arr8 at k1 k2 k3 k4 k5 k6 ⊢
  clear hk bk hx hM hA hB hMA hABd
  go_enter Try.func7, Try.ntmps7
  go_upto_region 2 with (fail)
  generalize hX : World.alloc W _ = X
  have x0 : X.heap[W.heap.size]? = some (row8 23 kl) := by rw [← hX]; exact heap_alloc_new _ _
  have xb : Below W.heap.size W X := by rw [← hX]; exact (Below.refl _ _).alloc (Nat.le_refl _) _
  have X0 := hide1 x0
  have B0 := hide1 xb
  clear hX x0 xb
  go_wp2_with (first | (refine wpList_load_row rfl 23 (.tmp 5) rfl W.heap.size rfl 23 (u8s kl).toArray (0, 0) _ X0.out Try.underlying23 rfl (by rw [Hz.out]; kernel_rfl) ?_) | fail)
  go_at_call 10
  refine (k1 _).out.mono ?_
  rintro e w1 ⟨rfl, hb⟩
  have X1 := hide1 ((hb.block _ (lt_heap X0.out)).trans X0.out)
  have B1 := hide1 (B0.out.trans (hb.mono B0.out.size))
  clear hb k1 X0 B0
  go_wp2_with (first | (refine wpList_load_row rfl 23 (.tmp 5) rfl W.heap.size rfl 23 (u8s kl).toArray (0, 0) _ X1.out Try.underlying23 rfl (by rw [Hz.out]; kernel_rfl) ?_) | fail)
  go_at_call 10
  refine (k2 _).out.mono ?_
  rintro e w2 ⟨rfl, hb⟩
  have X2 := hide1 ((hb.block _ (lt_heap X1.out)).trans X1.out)
  have B2 := hide1 (B1.out.trans (hb.mono B1.out.size))
  clear hb k2 X1 B1
  go_wp2_with (first | (refine wpList_load_row rfl 23 (.tmp 5) rfl W.heap.size rfl 23 (u8s kl).toArray (0, 0) _ X2.out Try.underlying23 rfl (by rw [Hz.out]; kernel_rfl) ?_) | fail)
  go_at_call 10
  refine (k3 _).out.mono ?_
  rintro e w3 ⟨rfl, hb⟩
  have X3 := hide1 ((hb.block _ (lt_heap X2.out)).trans X2.out)
  have B3 := hide1 (B2.out.trans (hb.mono B2.out.size))
  clear hb k3 X2 B2
  go_wp2_with (first | (refine wpList_load_row rfl 23 (.tmp 5) rfl W.heap.size rfl 23 (u8s kl).toArray (0, 0) _ X3.out Try.underlying23 rfl (by rw [Hz.out]; kernel_rfl) ?_) | fail)
  go_at_call 14
  refine (k4 _).out.mono ?_
  rintro e w4 ⟨au, mu, rfl, hv, hb⟩
  obtain rfl : A = mu := by rw [← hv.len, HLU.out]
  go_upto_region 6 with (fail)
  generalize hY : World.alloc w4 _ = Y4
  have y0 : Y4.heap[w4.heap.size]? = some (.cells #[.int .i64 (A : Int), .slice au (V.need A 64) (V.need A 64)] 37 (0, 0)) := by rw [← hY]; exact heap_alloc_new _ _
  have yb : Below w4.heap.size w4 Y4 := by rw [← hY]; exact (Below.refl _ _).alloc (Nat.le_refl _) _
  have hbb := hb.trans (yb.mono hb.size)
  have X4 := hide1 ((hbb.block _ (lt_heap X3.out)).trans X3.out)
  have B4 := hide1 (B3.out.trans (hbb.mono B3.out.size))
  have Vu4 := hide1 ((hv.below yb (Nat.le_refl _)).mono (Nat.zero_le _))
  obtain ⟨gu, hgu⟩ : ∃ g, g = w4.heap.size := ⟨_, rfl⟩
  rw [← hgu] at y0 ⊢
  have Qu4 := hide1 y0
  clear hY y0 yb hbb hgu hb hv k4 X3 B3
  go_wp2_with (first | (refine wpList_load_row rfl 23 (.tmp 5) rfl W.heap.size rfl 23 (u8s kl).toArray (0, 0) _ X4.out Try.underlying23 rfl (by rw [Hz.out]; kernel_rfl) ?_) | fail)
  go_at_call 14
  refine (k5 _).out.mono ?_
  rintro e w5 ⟨av, mv, rfl, hv, hb⟩
  obtain rfl : B = mv := by rw [← hv.len, HLV.out]
  go_upto_region 7 with (fail)
  generalize hY : World.alloc w5 _ = Y5
  have y0 : Y5.heap[w5.heap.size]? = some (.cells #[.int .i64 (B : Int), .slice av (V.need B 64) (V.need B 64)] 37 (0, 0)) := by rw [← hY]; exact heap_alloc_new _ _
  have yb : Below w5.heap.size w5 Y5 := by rw [← hY]; exact (Below.refl _ _).alloc (Nat.le_refl _) _
  have hbb := hb.trans (yb.mono hb.size)
  have X5 := hide1 ((hbb.block _ (lt_heap X4.out)).trans X4.out)
  have B5 := hide1 (B4.out.trans (hbb.mono B4.out.size))
  have Vv5 := hide1 ((hv.below yb (Nat.le_refl _)).mono (Nat.zero_le _))
  have Vu5 := hide1 (Vu4.out.below hbb (Nat.le_refl _))
  have Qu5 := hide1 ((hbb.block _ (lt_heap Qu4.out)).trans Qu4.out)
  obtain ⟨gv, hgv⟩ : ∃ g, g = w5.heap.size := ⟨_, rfl⟩
  rw [← hgv] at y0 ⊢
  have Qv5 := hide1 y0
  clear hY y0 yb hbb hgv hb hv k5 X4 B4 Vu4 Qu4
  go_wp2_with (first | (refine wpList_load_row rfl 23 (.tmp 5) rfl W.heap.size rfl 23 (u8s kl).toArray (0, 0) _ X5.out Try.underlying23 rfl (by rw [Hz.out]; kernel_rfl) ?_) | fail)
  go_at_call 14
  refine (k6 _).out.mono ?_
  rintro e w6 ⟨aw, mw, rfl, hv, hb⟩
  obtain rfl : AB = mw := by rw [← hv.len, HLW.out]
  go_upto_region 8 with (fail)
  generalize hY : World.alloc w6 _ = Y6
  have y0 : Y6.heap[w6.heap.size]? = some (.cells #[.int .i64 (AB : Int), .slice aw (V.need AB 64) (V.need AB 64)] 37 (0, 0)) := by rw [← hY]; exact heap_alloc_new _ _
  have yb : Below w6.heap.size w6 Y6 := by rw [← hY]; exact (Below.refl _ _).alloc (Nat.le_refl _) _
  have hbb := hb.trans (yb.mono hb.size)
  have X6 := hide1 ((hbb.block _ (lt_heap X5.out)).trans X5.out)
  have B6 := hide1 (B5.out.trans (hbb.mono B5.out.size))
  have Vw6 := hide1 ((hv.below yb (Nat.le_refl _)).mono (Nat.zero_le _))
  have Vu6 := hide1 (Vu5.out.below hbb (Nat.le_refl _))
  have Qu6 := hide1 ((hbb.block _ (lt_heap Qu5.out)).trans Qu5.out)
  have Vv6 := hide1 (Vv5.out.below hbb (Nat.le_refl _))
  have Qv6 := hide1 ((hbb.block _ (lt_heap Qv5.out)).trans Qv5.out)
  obtain ⟨gw, hgw⟩ : ∃ g, g = w6.heap.size := ⟨_, rfl⟩
  rw [← hgw] at y0 ⊢
  have Qw6 := hide1 y0
  clear hY y0 yb hbb hgw hb hv k6 X5 B5 Vu5 Qu5 Vv5 Qv5
  obtain ⟨U, hU⟩ : ∃ U, U = Y6 := ⟨_, rfl⟩
  rw [← hU] at X6 B6 Vu6 Vv6 Vw6 Qu6 Qv6 Qw6 ⊢
  clear hU
  have HBU : Hid (∀ w', Below U.heap.size U w' → w'.cell? ⟨gu, 0, none⟩ = some (.int .i64 (A : Int)) ∧ w'.cell? ⟨gu, 1, none⟩ = some (.slice au (V.need A 64) (V.need A 64))) := fun w' h => by
    obtain ⟨c0, c1, _⟩ := V.box2 ((h.block _ (lt_heap Qu6.out)).trans Qu6.out)
    exact ⟨c0, c1⟩
  have HBV : Hid (∀ w', Below U.heap.size U w' → w'.cell? ⟨gv, 0, none⟩ = some (.int .i64 (B : Int)) ∧ w'.cell? ⟨gv, 1, none⟩ = some (.slice av (V.need B 64) (V.need B 64))) := fun w' h => by
    obtain ⟨c0, c1, _⟩ := V.box2 ((h.block _ (lt_heap Qv6.out)).trans Qv6.out)
    exact ⟨c0, c1⟩
  have HVU : Hid (∀ w', Below U.heap.size U w' → V.Vc 0 w' A au lu) := fun w' h => Vu6.out.below h (Nat.le_refl _)
  have HVV : Hid (∀ w', Below U.heap.size U w' → V.Vc 0 w' B av lv) := fun w' h => Vv6.out.below h (Nat.le_refl _)
  have HVW : Hid (∀ w', Below U.heap.size U w' → V.Vc 0 w' AB aw lw ∧ w'.heap[gw]? = some (.cells #[.int .i64 (AB : Int), .slice aw (V.need AB 64) (V.need AB 64)] 37 (0, 0))) := fun w' h => ⟨Vw6.out.below h (Nat.le_refl _), (h.block _ (lt_heap Qw6.out)).trans Qw6.out⟩
  have HBW : Hid (∀ w', Below U.heap.size U w' → Below W.heap.size W w') := fun w' h => B6.out.trans (h.mono B6.out.size)
  clear X6 B6 Vu6 Vv6 Vw6 Qu6 Qv6 Qw6
  have z1 : ¬ (9223372036854775807 < tp.size + tq.size) := by have := HAB.out; omega
  have z2 : ¬ (9223372036854775807 < A + B) := by have := HAB.out; omega
  refine region_f (F := []) (S := fun w' => Below U.heap.size U w') (by kernel_rfl) ((Below.refl _ _).drew) (fun hS => ?_)
  refine take_f 1 90 (.agg #[.int .i64 (A : Int), .slice au (V.need A 64) (V.need A 64)]) [2, 3, 5, 6, 7] rfl rfl (by kernel_rfl) (by kernel_rfl) (by kernel_rfl) (by kernel_rfl) (by kernel_rfl) (by kernel_rfl) (fun _ _ _ h => h) rfl (fun w hSw => by have h0 := (HBU.out _ hSw).1; have h1 := (HBU.out _ hSw).2; clear hSw; go_simp) hS ?_
  try simp only [List.setIfInBounds_toArray, List.set_cons_zero, List.set_cons_succ]
  refine take_f 4 93 (.agg #[.int .i64 (B : Int), .slice av (V.need B 64) (V.need B 64)]) [5, 6, 7] rfl rfl (by kernel_rfl) (by kernel_rfl) (by kernel_rfl) (by kernel_rfl) (by kernel_rfl) (by kernel_rfl) (fun _ _ _ h => h) rfl (fun w hSw => by have h0 := (HBV.out _ hSw).1; have h1 := (HBV.out _ hSw).2; clear hSw; go_simp) hS ?_
  try simp only [List.setIfInBounds_toArray, List.set_cons_zero, List.set_cons_succ]
  refine ready2_f 0 2 (o := { dst := some 89, op := Op.buildSlice 40 0 #[], type := 40, pos := "law.go:82", after := #[], guard := none }) (o' := { dst := some 91, op := Op.call { callee := Callee.value (Operand.func 18), args := #[Operand.tmp 90], argTypes := #[37] }, type := 40, pos := "law.go:82", after := #[{ on := 1, ground := Ground.data }], guard := none }) (by kernel_rfl) rfl rfl (fun K hK => ?_) (fun K hK => ?_)
  · go_simp
    refine hK.out _ _ (fun _ h => h.alloc h.size _) ?_
    clear hK K
    try simp only [Act.put, List.setIfInBounds_toArray, List.set_cons_zero, List.set_cons_succ]
    generalize hZ : World.drew (World.alloc U _) = Z
    have hE : Z.ownsRow U.heap.size 4 1 (.slice (some ⟨U.heap.size, 0, none⟩) 0 0) 0 (V.bools []) := by rw [← hZ]; exact (own_none U U.heap.size (Nat.le_refl _)).drew
    have hS1 : Below U.heap.size U Z := by rw [← hZ]; exact ((Below.refl _ _).alloc (Nat.le_refl _) _).drew
    clear hZ hS
    refine ready_f 2 (o := { dst := some 91, op := Op.call { callee := Callee.value (Operand.func 18), args := #[Operand.tmp 90], argTypes := #[37] }, type := 40, pos := "law.go:82", after := #[{ on := 1, ground := Ground.data }], guard := none }) (by kernel_rfl) rfl (fun K hK => ?_)
    go_simp
    refine (HO.out Z A au lu (HVU.out Z hS1) HAB.out.1).mono ?_
    rintro e Z1 ⟨ao, rfl, hbo, hb1⟩
    have hS2 : Below U.heap.size U Z1 := hS1.trans (hb1.mono hS1.size)
    refine hK.out _ _ (fun _ _ => hS2) ?_
    clear hK K
    try simp only [Act.put, List.setIfInBounds_toArray, List.set_cons_zero, List.set_cons_succ]
    have hE2 := own_below hE hb1
    clear hb1 hE hS1
    refine ready_f 3 (o := { dst := some 92, op := Op.call { callee := Callee.builtin Builtin.append, args := #[Operand.tmp 89, Operand.tmp 91], argTypes := #[40, 40] }, type := 40, pos := "law.go:82", after := #[{ on := 0, ground := Ground.data }, { on := 2, ground := Ground.data }, { on := 2, ground := Ground.chain }], guard := none }) (by kernel_rfl) rfl (fun K hK => ?_)
    refine step_append_bl rfl (.tmp 89) (.tmp 91) rfl U.heap.size (.slice (some ⟨U.heap.size, 0, none⟩) 0 0) 0 [] rfl hE2 ao A A lu rfl hbo (by have := HAB.out; omega) hS2.size ?_
    intro v1 Z2 ro1 gr1
    have hS3 : Below U.heap.size U Z2 := hS2.grown gr1 hS2.size (fun j hj => (hE2.lt j hj).1)
    refine hK.out _ _ (fun _ _ => hS3) ?_
    clear hK K
    try simp only [Act.put, List.setIfInBounds_toArray, List.set_cons_zero, List.set_cons_succ]
    rw [Nat.zero_add, List.nil_append] at ro1
    clear hE2 hS2 hbo gr1
    refine ready_f 5 (o := { dst := some 94, op := Op.call { callee := Callee.value (Operand.func 18), args := #[Operand.tmp 93], argTypes := #[37] }, type := 40, pos := "law.go:82", after := #[{ on := 4, ground := Ground.data }, { on := 3, ground := Ground.chain }], guard := none }) (by kernel_rfl) rfl (fun K hK => ?_)
    go_simp
    refine (HO.out Z2 B av lv (HVV.out Z2 hS3) HAB.out.2.1).mono ?_
    rintro e Z3 ⟨ap, rfl, hbp, hb3⟩
    have hS4 : Below U.heap.size U Z3 := hS3.trans (hb3.mono hS3.size)
    refine hK.out _ _ (fun _ _ => hS4) ?_
    clear hK K
    try simp only [Act.put, List.setIfInBounds_toArray, List.set_cons_zero, List.set_cons_succ]
    have hE4 := own_below ro1 hb3
    clear hb3 ro1 hS3
    refine ready_f 6 (o := { dst := some 95, op := Op.call { callee := Callee.builtin Builtin.append, args := #[Operand.tmp 92, Operand.tmp 94], argTypes := #[40, 40] }, type := 40, pos := "law.go:82", after := #[{ on := 3, ground := Ground.data }, { on := 5, ground := Ground.data }, { on := 5, ground := Ground.chain }], guard := none }) (by kernel_rfl) rfl (fun K hK => ?_)
    refine step_append_bl rfl (.tmp 92) (.tmp 94) rfl U.heap.size v1 A lu rfl hE4 ap B B lv rfl hbp (by have := HAB.out; omega) hS4.size ?_
    intro v2 Z4 ro2 gr2
    have hS5 : Below U.heap.size U Z4 := hS4.grown gr2 hS4.size (fun j hj => (hE4.lt j hj).1)
    refine hK.out _ _ (fun _ _ => hS5) ?_
    clear hK K
    try simp only [Act.put, List.setIfInBounds_toArray, List.set_cons_zero, List.set_cons_succ]
    rw [HAB.out.2.2.1, HCatB.out] at ro2
    obtain ⟨aq, cq, rfl⟩ := row_form ro2
    have HQ := hide1 (own_bl HLW.out ro2)
    have HS5 := hide1 hS5
    clear hE4 hS4 hbp gr2 ro2 hS5
    refine take_p 7 26 (.slice aq AB cq) rfl rfl (by kernel_rfl) (by kernel_rfl) (by kernel_rfl) (fun _ _ _ h => h) rfl (fun w => by go_simp) ?_
    try simp only [List.setIfInBounds_toArray, List.set_cons_zero, List.set_cons_succ]
    refine done_f (by kernel_rfl) ?_ _
    obtain ⟨vw, qw⟩ := HVW.out _ HS5.out
    obtain ⟨c0, c1, f0, f1, l0⟩ := V.box2 qw
    have kO := hide1 (HO.out Z4 AB aw lw vw (by have := HAB.out; omega))
    clear vw qw
    go_wp2_with fail
    go_at_call 18
    refine kO.out.mono ?_
    rintro e w9 ⟨ao9, rfl, ho9, hb9⟩
    have HB9 := hide1 (HBW.out _ (HS5.out.trans (hb9.mono HS5.out.size)))
    have hq9 := HQ.out.below hb9 (Nat.le_refl _)
    have hab4 : AB ≤ 4194304 := by have := HAB.out; omega
    have kS := V.same_any w9 AB AB cq AB aq ao9 lw lw hq9 ho9 hab4 hab4
    rw [decide_eq_true rfl] at kS
    have KS := hide1 kS
    clear hb9 ho9 hq9 hab4 kS kO HQ HS5
    go_wp2_with fail
    go_at_call 17
    refine KS.out.mono ?_
    rintro e wa ⟨rfl, q, hq⟩
    have BA : Hid (Below W.heap.size W wa) := by rw [hq]; exact below_drewN' HB9.out q
    clear hq KS HB9
    go_wp2_with (go_at_call 9; refine (awake_any _).mono ?_; rintro e w' ⟨rfl, rfl⟩)
    go_ret
    exact ⟨rfl, BA.out⟩
  · go_simp
    refine (HO.out U.drew A au lu (HVU.out U.drew hS) HAB.out.1).mono ?_
    rintro e Z ⟨ao, rfl, hbo0, hb1⟩
    have hS1 : Below U.heap.size U Z := hS.trans (hb1.mono hS.size)
    refine hK.out _ _ (fun _ _ => hS1) ?_
    clear hK K
    try simp only [Act.put, List.setIfInBounds_toArray, List.set_cons_zero, List.set_cons_succ]
    clear hb1 hS
    refine ready_f 0 (o := { dst := some 89, op := Op.buildSlice 40 0 #[], type := 40, pos := "law.go:82", after := #[], guard := none }) (by kernel_rfl) rfl (fun K hK => ?_)
    go_simp
    refine hK.out _ _ (fun _ h => h.alloc h.size _) ?_
    clear hK K
    try simp only [Act.put, List.setIfInBounds_toArray, List.set_cons_zero, List.set_cons_succ]
    generalize hZ : World.alloc Z _ = Z1
    have hE2 : Z1.ownsRow U.heap.size 4 1 (.slice (some ⟨Z.heap.size, 0, none⟩) 0 0) 0 (V.bools []) := by rw [← hZ]; exact own_none Z U.heap.size hS1.size
    have hb0 : Below Z.heap.size Z Z1 := by rw [← hZ]; exact (Below.refl _ _).alloc (Nat.le_refl _) _
    have hbo := hbo0.below hb0 (Nat.le_refl _)
    have hS2 : Below U.heap.size U Z1 := hS1.trans (hb0.mono hS1.size)
    clear hZ hb0 hbo0 hS1
    refine ready_f 3 (o := { dst := some 92, op := Op.call { callee := Callee.builtin Builtin.append, args := #[Operand.tmp 89, Operand.tmp 91], argTypes := #[40, 40] }, type := 40, pos := "law.go:82", after := #[{ on := 0, ground := Ground.data }, { on := 2, ground := Ground.data }, { on := 2, ground := Ground.chain }], guard := none }) (by kernel_rfl) rfl (fun K hK => ?_)
    refine step_append_bl rfl (.tmp 89) (.tmp 91) rfl U.heap.size (.slice (some ⟨Z.heap.size, 0, none⟩) 0 0) 0 [] rfl hE2 ao A A lu rfl hbo (by have := HAB.out; omega) hS2.size ?_
    intro v1 Z2 ro1 gr1
    have hS3 : Below U.heap.size U Z2 := hS2.grown gr1 hS2.size (fun j hj => (hE2.lt j hj).1)
    refine hK.out _ _ (fun _ _ => hS3) ?_
    clear hK K
    try simp only [Act.put, List.setIfInBounds_toArray, List.set_cons_zero, List.set_cons_succ]
    rw [Nat.zero_add, List.nil_append] at ro1
    clear hE2 hS2 hbo gr1
    refine ready_f 5 (o := { dst := some 94, op := Op.call { callee := Callee.value (Operand.func 18), args := #[Operand.tmp 93], argTypes := #[37] }, type := 40, pos := "law.go:82", after := #[{ on := 4, ground := Ground.data }, { on := 3, ground := Ground.chain }], guard := none }) (by kernel_rfl) rfl (fun K hK => ?_)
    go_simp
    refine (HO.out Z2 B av lv (HVV.out Z2 hS3) HAB.out.2.1).mono ?_
    rintro e Z3 ⟨ap, rfl, hbp, hb3⟩
    have hS4 : Below U.heap.size U Z3 := hS3.trans (hb3.mono hS3.size)
    refine hK.out _ _ (fun _ _ => hS4) ?_
    clear hK K
    try simp only [Act.put, List.setIfInBounds_toArray, List.set_cons_zero, List.set_cons_succ]
    have hE4 := own_below ro1 hb3
    clear hb3 ro1 hS3
    refine ready_f 6 (o := { dst := some 95, op := Op.call { callee := Callee.builtin Builtin.append, args := #[Operand.tmp 92, Operand.tmp 94], argTypes := #[40, 40] }, type := 40, pos := "law.go:82", after := #[{ on := 3, ground := Ground.data }, { on := 5, ground := Ground.data }, { on := 5, ground := Ground.chain }], guard := none }) (by kernel_rfl) rfl (fun K hK => ?_)
    refine step_append_bl rfl (.tmp 92) (.tmp 94) rfl U.heap.size v1 A lu rfl hE4 ap B B lv rfl hbp (by have := HAB.out; omega) hS4.size ?_
    intro v2 Z4 ro2 gr2
    have hS5 : Below U.heap.size U Z4 := hS4.grown gr2 hS4.size (fun j hj => (hE4.lt j hj).1)
    refine hK.out _ _ (fun _ _ => hS5) ?_
    clear hK K
    try simp only [Act.put, List.setIfInBounds_toArray, List.set_cons_zero, List.set_cons_succ]
    rw [HAB.out.2.2.1, HCatB.out] at ro2
    obtain ⟨aq, cq, rfl⟩ := row_form ro2
    have HQ := hide1 (own_bl HLW.out ro2)
    have HS5 := hide1 hS5
    clear hE4 hS4 hbp gr2 ro2 hS5
    refine take_p 7 26 (.slice aq AB cq) rfl rfl (by kernel_rfl) (by kernel_rfl) (by kernel_rfl) (fun _ _ _ h => h) rfl (fun w => by go_simp) ?_
    try simp only [List.setIfInBounds_toArray, List.set_cons_zero, List.set_cons_succ]
    refine done_f (by kernel_rfl) ?_ _
    obtain ⟨vw, qw⟩ := HVW.out _ HS5.out
    obtain ⟨c0, c1, f0, f1, l0⟩ := V.box2 qw
    have kO := hide1 (HO.out Z4 AB aw lw vw (by have := HAB.out; omega))
    clear vw qw
    go_wp2_with fail
    go_at_call 18
    refine kO.out.mono ?_
    rintro e w9 ⟨ao9, rfl, ho9, hb9⟩
    have HB9 := hide1 (HBW.out _ (HS5.out.trans (hb9.mono HS5.out.size)))
    have hq9 := HQ.out.below hb9 (Nat.le_refl _)
    have hab4 : AB ≤ 4194304 := by have := HAB.out; omega
    have kS := V.same_any w9 AB AB cq AB aq ao9 lw lw hq9 ho9 hab4 hab4
    rw [decide_eq_true rfl] at kS
    have KS := hide1 kS
    clear hb9 ho9 hq9 hab4 kS kO HQ HS5
    go_wp2_with fail
    go_at_call 17
    refine KS.out.mono ?_
    rintro e wa ⟨rfl, q, hq⟩
    have BA : Hid (Below W.heap.size W wa) := by rw [hq]; exact below_drewN' HB9.out q
    clear hq KS HB9
    go_wp2_with (go_at_call 9; refine (awake_any _).mono ?_; rintro e w' ⟨rfl, rfl⟩)
    go_ret
    exact ⟨rfl, BA.out⟩
end Go.Proofs.Ytldopgngbnjlnaa
