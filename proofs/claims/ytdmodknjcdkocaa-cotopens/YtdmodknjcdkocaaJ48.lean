/- The walk of CotOpens. -/
import Derived.Test.YtdmodknjcdkocaaJ47
namespace Go.Proofs.Ytdmodknjcdkocaa.Co
open Go.RowKit Pg Ro
set_option maxRecDepth 100000
attribute [local go_sem] not_any T.mf_any

theorem run_first (a : Option Addr) (M cc m : Nat) (h : m ≤ cc) (w : World) : (Instr.slice 35 (.slice a M cc) none (some (.int .i64 (m : Int))) none).run Try.prog w = .ok (.slice a m cc) w := by
  have a1 : (0 : Int) ≤ (m : Int) := by omega
  cases a with
  | none => simp [Instr.slice, run_underlying Try.underlying35, Instr.sliceBounds, run_sliceBound, a1, h]
  | some ad =>
    obtain ⟨g, o, sp⟩ := ad
    simp [Instr.slice, run_underlying Try.underlying35, Instr.sliceBounds, run_sliceBound, a1, h, Addr.add]
theorem bl_first {w : World} {M m : Nat} {a : Option Addr} {ch : List Bool} (h : T.Bl w M a ch) (hm : m ≤ M) : T.Bl w m a (ch.take m) := by
  refine ⟨by rw [List.length_take, h.len]; omega, fun j x hj => ?_⟩
  have hl := (List.getElem?_eq_some_iff.1 hj).1
  rw [List.length_take] at hl
  rw [List.getElem?_take_of_lt (by omega)] at hj
  exact h.at' j x hj
theorem take_getD {ch : List Bool} {m j : Nat} (h : j < m) : (ch.take m).getD j false = ch.getD j false := by
  rw [List.getD_eq_getElem?_getD, List.getD_eq_getElem?_getD, List.getElem?_take_of_lt h]
theorem own_form {w : World} {base n size : Nat} {e : TypeId} {v : Value} {xs : List Value} (h : w.ownsRow base e size v n xs) : ∃ a c, v = .slice a n c := by
  rcases h.2 with ⟨rfl, rfl⟩ | ⟨g, cap, cur, rfl, _⟩
  · exact ⟨none, 0, rfl⟩
  · exact ⟨_, _, rfl⟩

/- a list of words and one of seeds, as they grow -/
structure Ts (w : World) (base : Nat) (vA : Value) (p : Nat) (F : Nat → Nat) (vB : Value) (q : Nat) (S : Nat → List Nat) : Prop where
  a : w.ownsRow base 49 1 vA p (V.u64s (tl F p))
  b : w.ownsRow base 46 32 vB q (u8s (flt S q))
  ap : ∀ x, vA.ownBlock = some x → vB.ownBlock ≠ some x
theorem Ts.below {w w' : World} {base p q : Nat} {vA vB : Value} {F : Nat → Nat} {S : Nat → List Nat} (h : Ts w base vA p F vB q S) (hb : Below w.heap.size w w') : Ts w' base vA p F vB q S := ⟨own_below h.a hb, own_below h.b hb, h.ap⟩
theorem Ts.nil (w : World) (base : Nat) (F : Nat → Nat) (S : Nat → List Nat) : Ts w base (.slice none 0 0) 0 F (.slice none 0 0) 0 S := ⟨World.ownsRow_nil _ _ _ _, World.ownsRow_nil _ _ _ _, fun x e => by cases e⟩
theorem Ts.addA {w w' : World} {base p q g cap : Nat} {vA vB : Value} {F : Nat → Nat} {S : Nat → List Nat} (h : Ts w base vA p F vB q S) (ho : w'.ownsRow base 49 1 (.slice (some ⟨g, 0, none⟩) (p + 1) cap) (p + 1) (V.u64s (tl F p) ++ V.u64s [F p]))
    (hg : w.grownBy w' vA.ownBlock) (hl : vA.ownBlock = some g ∨ g = w.heap.size) : Ts w' base (.slice (some ⟨g, 0, none⟩) (p + 1) cap) (p + 1) F vB q S := by
  refine ⟨?_, h.b.kept hg ?_, fun x e h9 => ?_⟩
  · rw [tl_succ, V.u64s, List.map_append]
    exact ho
  · cases hb : vB.ownBlock with
    | none => exact .inl rfl
    | some x => exact .inr (fun e => h.ap x e.symm hb)
  · have e' : g = x := by simpa [Value.ownBlock] using e
    rcases hl with hl | hl
    · exact h.ap g hl (by rw [e']; exact h9)
    · have := (h.b.lt x h9).2
      omega
theorem Ts.addB {w w' : World} {base p q g cap : Nat} {vA vB : Value} {F : Nat → Nat} {S : Nat → List Nat} (h : Ts w base vA p F vB q S) (ho : w'.ownsRow base 46 32 (.slice (some ⟨g, 0, none⟩) (q + 1) cap) (q + 1) (u8s (flt S (q + 1))))
    (hg : w.grownBy w' vB.ownBlock) (hl : vB.ownBlock = some g ∨ g = w.heap.size) : Ts w' base vA p F (.slice (some ⟨g, 0, none⟩) (q + 1) cap) (q + 1) S := by
  refine ⟨h.a.kept hg ?_, ho, fun x e h9 => ?_⟩
  · cases hb : vA.ownBlock with
    | none => exact .inl rfl
    | some x => exact .inr (fun e => h.ap x hb e.symm)
  · have e' : g = x := by simpa [Value.ownBlock] using h9
    rcases hl with hl | hl
    · exact h.ap x e (by rw [hl, e'])
    · have := (h.a.lt x e).2
      omega

set_option maxHeartbeats 4000000 in
theorem opens_else (W n : Int) (m N M c cx cc : Nat) (a ax ac : Option Addr) (w : World) (hbig : W < 1 ∨ 64 < W ∨ n < 1 ∨ 6 < n ∨ 20 < m ∨ M < m ∨ (N : Int) < n * (m : Int)) :
    Calls Try.prog 5 #[.int .i64 W, .int .i64 n, .slice a m c, .slice ax N cx, .slice ac M cc] w fun e w' => e = .returned (.bool true) ∧ Below w.heap.size w w' := by
  have kA := fun w => hide1 (awake_any w)
  by_cases h0 : W < 1
  · have t0 : W < 1 := h0
    clear hbig
    go_enter Try.func5, Try.ntmps5
    go_wp2_with fail
    go_at_call 7
    refine (kA _).out.mono ?_
    rintro e w9 ⟨rfl, hb9⟩
    have B9 := hide1 hb9
    clear hb9
    go_wp2
    go_ret
    exact ⟨rfl, B9.out⟩
  · have t0 : ¬ W < 1 := h0
    by_cases h1 : 64 < W
    · have t1 : 64 < W := h1
      clear hbig
      go_enter Try.func5, Try.ntmps5
      go_wp2_with fail
      go_at_call 7
      refine (kA _).out.mono ?_
      rintro e w9 ⟨rfl, hb9⟩
      have B9 := hide1 hb9
      clear hb9
      go_wp2
      go_ret
      exact ⟨rfl, B9.out⟩
    · have t1 : ¬ 64 < W := h1
      by_cases h2 : n < 1
      · have t2 : n < 1 := h2
        clear hbig
        go_enter Try.func5, Try.ntmps5
        go_wp2_with fail
        go_at_call 7
        refine (kA _).out.mono ?_
        rintro e w9 ⟨rfl, hb9⟩
        have B9 := hide1 hb9
        clear hb9
        go_wp2
        go_ret
        exact ⟨rfl, B9.out⟩
      · have t2 : ¬ n < 1 := h2
        by_cases h3 : 6 < n
        · have t3 : 6 < n := h3
          clear hbig
          go_enter Try.func5, Try.ntmps5
          go_wp2_with fail
          go_at_call 7
          refine (kA _).out.mono ?_
          rintro e w9 ⟨rfl, hb9⟩
          have B9 := hide1 hb9
          clear hb9
          go_wp2
          go_ret
          exact ⟨rfl, B9.out⟩
        · have t3 : ¬ 6 < n := h3
          by_cases h4 : 20 < m
          · have t4 : (20 : Int) < (m : Int) := by omega
            clear hbig
            go_enter Try.func5, Try.ntmps5
            go_wp2_with fail
            go_at_call 7
            refine (kA _).out.mono ?_
            rintro e w9 ⟨rfl, hb9⟩
            have B9 := hide1 hb9
            clear hb9
            go_wp2
            go_ret
            exact ⟨rfl, B9.out⟩
          · have t4 : ¬ (20 : Int) < (m : Int) := by omega
            by_cases h5 : M < m
            · have t5 : (M : Int) < (m : Int) := by omega
              clear hbig
              go_enter Try.func5, Try.ntmps5
              go_wp2_with fail
              go_at_call 7
              refine (kA _).out.mono ?_
              rintro e w9 ⟨rfl, hb9⟩
              have B9 := hide1 hb9
              clear hb9
              go_wp2
              go_ret
              exact ⟨rfl, B9.out⟩
            · have t5 : ¬ (M : Int) < (m : Int) := by omega
              obtain ⟨k, rfl⟩ : ∃ k : Nat, n = (k : Int) := ⟨n.toNat, by omega⟩
              have hk : k ≤ 6 := by omega
              obtain ⟨Q, hQ⟩ : ∃ Q, Q = k * m := ⟨_, rfl⟩
              have hQb : Q ≤ 120 := by rw [hQ]; exact Nat.le_trans (Nat.mul_le_mul hk (show m ≤ 20 by omega)) (by decide)
              have e1 : IntKind.i64.wrap ((k : Int) * (m : Int)) = (Q : Int) := by rw [← Int.natCast_mul, ← hQ, wrap_i64_nat (by omega)]
              have e9 : (k : Int) * (m : Int) = (Q : Int) := by rw [← Int.natCast_mul, ← hQ]
              rw [e9] at hbig
              clear e9 hQ hk
              have t6 : (N : Int) < (Q : Int) := by omega
              clear hbig
              go_enter Try.func5, Try.ntmps5
              go_wp2_with fail
              go_at_call 7
              refine (kA _).out.mono ?_
              rintro e w9 ⟨rfl, hb9⟩
              have B9 := hide1 hb9
              clear hb9
              go_wp2
              go_ret
              exact ⟨rfl, B9.out⟩

set_option maxHeartbeats 32000000 in
theorem opens_in (B n m N M c cx cc : Nat) (a ax ac : Option Addr) (f : Nat → List Nat) (xs : List Nat) (ch : List Bool) (w : World) (hp : Pd w m a f) (hx : T.Nl w N ax xs) (hs : Ri.Small xs) (hv : T.Bl w M ac ch) (hcc : M ≤ cc) (h1 : 1 ≤ B) (h2 : B ≤ 64) (h3 : 1 ≤ n) (h4 : n ≤ 6) (hm : m ≤ 20) (hM : m ≤ M) (hN : n * m ≤ N) :
    Calls Try.prog 5 #[.int .i64 (B : Int), .int .i64 (n : Int), .slice a m c, .slice ax N cx, .slice ac M cc] w fun e w' => e = .returned (.bool true) ∧ Below w.heap.size w w' := by
  obtain ⟨i0, hi, hz0, hz1, hz2⟩ := info_of info47
  obtain ⟨i1, hi1, hy0, hy1, hy2⟩ := info_of info_seed
  have kA := fun w => hide1 (awake_any w)
  obtain ⟨Q, hQ⟩ : ∃ Q, Q = m * n := ⟨_, rfl⟩
  have hQ2 : Q = n * m := by rw [hQ, Nat.mul_comm]
  have hQb : Q ≤ 120 := by rw [hQ2]; exact Nat.le_trans (Nat.mul_le_mul h4 hm) (by decide)
  have e1 : IntKind.i64.wrap ((n : Int) * (m : Int)) = (Q : Int) := by rw [← Int.natCast_mul, ← hQ2, wrap_i64_nat (by omega)]
  rw [← hQ2] at hN
  have t0 : ¬ (B : Int) < 1 := by omega
  have t1 : ¬ (64 : Int) < (B : Int) := by omega
  have t2 : ¬ (n : Int) < 1 := by omega
  have t3 : ¬ (6 : Int) < (n : Int) := by omega
  have t4 : ¬ (20 : Int) < (m : Int) := by omega
  have t5 : ¬ (M : Int) < (m : Int) := by omega
  have t6 : ¬ (N : Int) < (Q : Int) := by omega
  obtain ⟨F, hF⟩ : ∃ F : Nat → Nat, F = fun k => at0 xs k % 2 ^ B := ⟨_, rfl⟩
  obtain ⟨SS, hSS⟩ : ∃ SS : Nat → List Nat, SS = fun j => pick (ch.getD j false) (f (2 * j)) (f (2 * j + 1)) := ⟨_, rfl⟩
  have HSE : Shy (∀ j, SS j = pick (ch.getD j false) (f (2 * j)) (f (2 * j + 1))) := ⟨fun j => by rw [hSS]⟩
  have HGS : Shy (∀ j, (SS j).length = 32 ∧ Lt 256 (SS j)) := ⟨fun j => by
    rw [hSS]
    show (pick _ _ _).length = 32 ∧ Lt 256 (pick _ _ _)
    unfold pick
    split
    · exact hp.good _
    · exact hp.good _⟩
  have HFl : Shy (∀ k, F k < 2 ^ B) := ⟨fun k => by rw [hF]; exact Nat.mod_lt _ (pow_pos2 B)⟩
  have kF : Hid (∀ k, ∀ W, Calls Try.prog 15 #[.int .i64 (B : Int), .int .u64 (at0 xs k : Nat)] W fun e w' => e = .returned (.int .u64 (F k : Nat)) ∧ w' = W) := fun k W => by rw [hF]; exact Ri.rfit_any B _ W h1 h2 (small_at hs k)
  obtain ⟨FX, hFX⟩ : ∃ FX, FX = fixF B n f (at0 (tl F Q)) := ⟨_, rfl⟩
  obtain ⟨OW, hOW⟩ : ∃ OW, OW = ownF B n f := ⟨_, rfl⟩
  obtain ⟨GT, hGT⟩ : ∃ GT, GT = gotF B n SS (fun j => (ch.take m).getD j false) (at0 (tl FX Q)) := ⟨_, rfl⟩
  obtain ⟨E, hE⟩ : ∃ E : Nat → Nat, E = fun k => if ch.getD (k / n) false = true then F k else 0 := ⟨_, rfl⟩
  have HFX : Shy (∀ k, FX k < 2 ^ B) := ⟨fun k => by rw [hFX]; exact fixF_lt _ _ _ _ k⟩
  have HOW : Shy (∀ k, OW k < 2 ^ B) := ⟨fun k => by rw [hOW]; exact ownF_lt _ _ _ k⟩
  have HGT : Shy (∀ k, GT k < 2 ^ B) := ⟨fun k => by rw [hGT]; exact gotF_lt h2 h3 _ _ _ k⟩
  have HEE : Shy (∀ k, E k = if ch.getD (k / n) false = true then F k else 0) := ⟨fun k => by rw [hE]⟩
  have hkn : ∀ k, k < Q → k / n < m := fun k hk => Nat.div_lt_of_lt_mul (by rw [← hQ2]; exact hk)
  have HKN := hide1 hkn
  have EQ : ∀ k, k < Q → (OW k + GT k) % 2 ^ B = E k := fun k hk => by
    have ht : (ch.take m).getD (k / n) false = ch.getD (k / n) false := take_getD (hkn k hk)
    rw [hOW, hGT, opens (X := at0 (tl F Q)) h2 h3 (by rw [tl_at hk]; exact HFl.out k) (by rw [ht]; exact HSE.out _) (by rw [tl_at hk, hFX]), tl_at hk, ht, HEE.out]
  have kS : Hid (∀ d g x cl V, Q ≤ cl → Pd V m g f → T.Nl V Q x (tl F Q) → Calls Try.prog 8 #[.int .i64 (B : Int), .int .i64 (n : Int), .slice g m d, .slice x Q cl] V fun e w' => ∃ a1 c1 a2 c2, e = .returned (.tuple #[.slice a1 Q c1, .slice a2 Q c2, .int .i64 0]) ∧ T.Nl w' Q a1 (tl FX Q) ∧ T.Nl w' Q a2 (tl OW Q) ∧ Below V.heap.size V w' ∧ Q ≤ c1) := fun d g x cl V hcl h5 h6 => by
    rw [hFX, hOW]
    exact send_good (send_any (B : Int) (n : Int) m Q d cl g x f (tl F Q) V h5 h6 (tl_lt64 h2 HFl.out) (by omega) (by omega) hcl) (ok_of h1 h2 h3 h4 hQ (tl_fits h1 h2 (fun k _ => HFl.out k)))
  have kR : Hid (∀ d g av x cl V, Q ≤ cl → Sd V m g SS → T.Vc 0 V m av (ch.take m) → T.Nl V Q x (tl FX Q) → Calls Try.prog 13 #[.int .i64 (B : Int), .int .i64 (n : Int), .slice g m d, .agg #[.int .i64 (m : Int), .slice av (T.need m 64) (T.need m 64)], .slice x Q cl] V fun e w' => ∃ a1 c1, e = .returned (.tuple #[.slice a1 Q c1, .int .i64 0]) ∧ T.Nl w' Q a1 (tl GT Q) ∧ Below V.heap.size V w') := fun d g av x cl V hcl h5 h6 h7 => by
    rw [hGT]
    exact receive_good (receive_any (B : Int) (n : Int) m m Q d cl g av x SS (ch.take m) (tl FX Q) V h5 h6 h7 (tl_lt64 h2 HFX.out) (by omega) (by omega) (by omega) hcl) (ok_of h1 h2 h3 h4 hQ (tl_fits h1 h2 (fun k _ => HFX.out k)))
  have kP : Hid (∀ ca cb x y V, T.Nl V Q x (tl OW Q) → T.Nl V Q y (tl GT Q) → Calls Try.prog 16 #[.int .i64 (B : Int), .slice x Q ca, .slice y Q cb] V fun e w' => ∃ a1 c1, e = .returned (.tuple #[.slice a1 Q c1, .int .i64 0]) ∧ T.Nl w' Q a1 (tl E Q) ∧ Below V.heap.size V w') := fun ca cb x y V h5 h6 => by
    have h := open_good (open_any (B : Int) Q Q ca cb x y (tl OW Q) (tl GT Q) V h5 h6 (by omega)) h1 h2
    rwa [tl_congr EQ] at h
  have kT : Hid (∀ H : Nat → Nat, (∀ k, H k < 2 ^ B) → ∀ cl x V, T.Nl V Q x (tl H Q) → Calls Try.prog 17 #[.int .i64 (B : Int), .slice x Q cl] V fun e w' => e = .returned (.bool true) ∧ ∃ q, w' = V.drewN q) := fun H hH cl x V h5 => by
    have h := Ri.rfits_any B V Q cl x (tl H Q) (ri_nl h5) (tl_lt64 h2 hH) (by omega) h1 h2
    rwa [tl_fits h1 h2 (fun k _ => hH k)] at h
  have HP := hide1 hp
  have HGP := hide1 hp.good
  have HX := hide1 hx
  have HC := hide1 hv
  have HQ := hide1 hQ
  clear hp hx hv hs h1 h2 hQ hQ2 hF hSS hFX hOW hGT hE EQ hkn
  go_enter Try.func5, Try.ntmps5
  go_wp2
  go_loopw [11, 12, 13] (fun v11 v12 v13 wr => ∃ j p : Nat, j ≤ m ∧ p = j * n ∧ v13 = .int .i64 j ∧ Ts wr w.heap.size v11 p F v12 j SS ∧ Below w.heap.size w wr) (fun _ _ v13 _ => m - (intOf v13).toNat)
  case atStart => exact ⟨0, 0, Nat.zero_le _, by omega, rfl, Ts.nil _ _ _ _, Below.refl _ _⟩
  case round =>
    obtain ⟨j, p, hj, hp0, rfl, hts, hbe⟩ := hrel
    obtain ⟨la, lc, rfl⟩ := own_form hts.a
    obtain ⟨lb, lcb, rfl⟩ := own_form hts.b
    by_cases hlt : j < m
    · have bm : (j : Int) < (m : Int) := by omega
      have bM : (j : Int) < (M : Int) := by omega
      have b20 : (j : Int) < 20 := by omega
      obtain ⟨ga, oa, rfl, hga, ra⟩ := HP.out.at0 hlt
      obtain ⟨bc, hbc⟩ : ∃ bc, ch[j]? = some bc := ⟨_, List.getElem?_eq_getElem (by rw [HC.out.len]; omega)⟩
      obtain ⟨gc, oc, rfl, hcc0⟩ := HC.out.at' j bc hbc
      have hra := ra wr hbe j hlt
      have hlp := (HGP.out (2 * j)).1
      have hlq := (HGP.out (2 * j + 1)).1
      have his0 := hi23 hlp
      have hip' := hi23' hlp
      have his1 := hi23 hlq
      have hiq' := hi23' hlq
      have hsf : flt SS j ++ pick bc (f (2 * j)) (f (2 * j + 1)) = flt SS (j + 1) := by rw [flt, HSE.out j, List.getD_eq_getElem?_getD, hbc]; rfl
      generalize f (2 * j) = s0 at *
      generalize f (2 * j + 1) = s1 at *
      have HLs0 := hide1 hlp
      have HLs1 := hide1 hlq
      have HMs0 : Hid ((u8s s0).length = 1 * 32) := by show (u8s s0).length = 1 * 32; rw [u8s_length, hlp]
      have HMs1 : Hid ((u8s s1).length = 1 * 32) := by show (u8s s1).length = 1 * 32; rw [u8s_length, hlq]
      have HZp : Shy ((u8s (zeros 32)).toArray.size = (u8s s0).toArray.size) := ⟨by simp [u8s, zeros, hlp]⟩
      have HZq : Shy ((u8s s0).toArray.size = (u8s s1).toArray.size) := ⟨by simp [u8s, hlp, hlq]⟩
      have HSF0 := hide1 hsf
      obtain ⟨ja, hja⟩ : ∃ x, x = oa + j * 64 := ⟨_, rfl⟩
      obtain ⟨jc, hjc⟩ : ∃ x, x = oc + j := ⟨_, rfl⟩
      rw [← hja] at hra
      rw [← hjc] at hcc0
      have eja : oa + j * 64 = ja := hja.symm
      have ejc : oc + j = jc := hjc.symm
      have HRA := hide1 hra
      have HCC : Hid (∀ V, Below w.heap.size w V → V.cell? ⟨gc, jc, none⟩ = some (.bool bc)) := fun V h => (h.cell (p := ⟨gc, jc, none⟩) (T.lt_cell hcc0)).trans hcc0
      have HE := hide1 hbe
      have HTS := hide1 hts
      have HP0 := hide1 hp0
      clear hts hbe ra hra hbc hcc0 hlp hlq hsf hja hjc hp0
      go_upto_region 9 with (first
        | (refine wpList_load_mid rfl 46 (.tmp 72) rfl ga ja rfl (u8s s0) _ HRA.out.1 Try.underlying46 rfl hip' ?_)
        | (refine wpList_store_own rfl 46 (.tmp 14) (.tmp 73) rfl wr.heap.size rfl (u8s s0).toArray rfl 46 _ (heap_alloc_new wr (row8 46 (zeros 32))) his0 HZp.out (all_one (u8s_one _)) ?_)
        | fail)
      generalize hZ1 : World.setRow _ _ _ = Z1
      have z0 : Z1.heap[wr.heap.size]? = some (.cells (u8s s0).toArray 46 (0, 0)) := by rw [← hZ1]; exact setRow_heap _ _ _ _ _ _ (heap_alloc_new _ _)
      have zb : Below wr.heap.size wr Z1 := by rw [← hZ1]; exact Below.setRow' ((Below.refl _ _).alloc (Nat.le_refl _) _) (Nat.le_refl _) _
      obtain ⟨gz, hgz⟩ : ∃ g, g = wr.heap.size := ⟨_, rfl⟩
      have hzgz : w.heap.size ≤ gz := by rw [hgz]; exact HE.out.size
      rw [← hgz] at z0 ⊢
      have hc1 := HCC.out Z1 (HE.out.trans (zb.mono HE.out.size))
      have Z0 := hide1 z0
      cases bc with
      | false =>
        have HSF : Shy (flt SS j ++ s0 = flt SS (j + 1)) := ⟨HSF0.out⟩
        have TS1 := hide1 (HTS.out.below zb)
        have ZB1 := hide1 (HE.out.trans (zb.mono HE.out.size))
        clear hZ1 z0 zb hgz HTS HE HRA HCC HSF0
        go_upto_region 12 with (first
          | (refine wpList_load_row rfl 46 (.tmp 14) rfl gz rfl 46 (u8s s0).toArray (0, 0) _ Z0.out Try.underlying46 rfl his0 ?_)
          | (refine wpList_build_seed rfl (.tmp 84) rfl rfl HLs0.out ?_)
          | (at_builtin; go_must (refine wpList_append_lies _ rfl (.tmp 83) (.tmp 85) 34 rfl w.heap.size 46 i1 (arr8 (zeros 32)) 32 32 Try.underlying34 hi1 hy0 hy1 hy2 (by kernel_rfl) (by decide) (.slice lb j lcb) j (u8s (flt SS j)) rfl (TS1.out.b.alloc _) ⟨Z1.heap.size, 0, none⟩ 1 1 (u8s s0) rfl HMs0.out (World.news_of_block (heap_alloc_new Z1 (row8 46 s0))) (u8s_one _) (by omega) (by unfold maxLen; omega) (by omega) (by have := ZB1.out.size; rw [size_alloc]; omega) _ rfl ?_; intro g8 cap8 w8 ro8 gr8 wh8 lt8))
          | fail)
        rw [← u8s_append, HSF.out] at ro8
        have ts8 := (TS1.out.below ((Below.refl _ _).alloc (Nat.le_refl _) _)).addB ro8 gr8 wh8
        have hb8 : Below w.heap.size w w8 := (ZB1.out.alloc ZB1.out.size _).grown gr8 (by rw [size_alloc]; have := ZB1.out.size; omega) (fun k hk => (TS1.out.b.lt k hk).1)
        have TS8 := hide1 ts8
        have HB8 := hide1 hb8
        clear ro8 hb8 gr8 wh8 lt8 ts8 TS1 ZB1 Z0 HSF hc1
        go_wp2
        go_loopw [11, 15] (fun v11 v15 wr => ∃ i p : Nat, i ≤ n ∧ p = j * n + i ∧ v15 = .int .i64 i ∧ Ts wr w.heap.size v11 p F (.slice (some ⟨g8, 0, none⟩) (j + 1) cap8) (j + 1) SS ∧ Below w.heap.size w wr) (fun _ v15 _ => n - (intOf v15).toNat)
        case atStart => exact ⟨0, p, Nat.zero_le _, by rw [HP0.out]; rfl, rfl, TS8.out, HB8.out⟩
        case round =>
          obtain ⟨i, p, hi9, hpi, rfl, hts, hbe⟩ := hrel
          obtain ⟨la, lc, rfl⟩ := own_form hts.a
          by_cases hli : i < n
          · have hpQ : p < Q := by rw [hpi, HQ.out]; exact place_lt hlt hli
            have bp : (p : Int) < (N : Int) := by omega
            have bp2 : (p : Int) < 120 := by omega
            have bi : (i : Int) < (n : Int) := by omega
            have bi6 : (i : Int) < 6 := by omega
            obtain ⟨q, hq⟩ : ∃ q, q = j * n := ⟨_, rfl⟩
            have e2 : IntKind.i64.wrap ((j : Int) * (n : Int)) = (q : Int) := by rw [← Int.natCast_mul, ← hq, wrap_i64_nat (by omega)]
            have e3 : (q : Int) + (i : Int) = (p : Int) := by omega
            have bq : (q : Int) ≤ 120 := by omega
            have e4 : IntKind.i64.wrap (p : Int) = (p : Int) := wrap_i64_nat (by omega)
            obtain ⟨gx, ox, rfl, cx0⟩ := nl_val (HX.out.below hbe (Nat.le_refl _)) (show p < N by omega)
            have KF := hide1 (kF.out p)
            obtain ⟨v1, hv1⟩ : ∃ v, v = F p := ⟨_, rfl⟩
            rw [← hv1] at KF
            have HV1 := hide1 hv1
            generalize at0 xs p = x at *
            obtain ⟨jx, hjx⟩ : ∃ t, t = ox + p := ⟨_, rfl⟩
            rw [← hjx] at cx0
            have ejx : ox + p = jx := hjx.symm
            have HTS := hide1 hts
            have HE := hide1 hbe
            have HPI := hide1 hpi
            clear hts hbe hv1 hjx hpi hq
            go_wp2_with (first
              | (go_at_call 15; refine (KF.out _).mono ?_; rintro e w' ⟨rfl, he9⟩; obtain rfl := he9.symm; clear he9)
              | (at_builtin; go_must (refine wpList_append_lies _ rfl (.tmp 92) (.tmp 103) 23 rfl w.heap.size 49 i0 (.int .u64 0) 1 8 Try.underlying23 hi hz0 hz1 hz2 rfl (by decide) (.slice la p lc) p (V.u64s (tl F p)) rfl (HTS.out.a.alloc _) ⟨wr.heap.size, 0, none⟩ 1 1 (V.u64s [v1]) rfl rfl (World.news_of_block (heap_alloc_new wr (V.wrow [v1]))) (V.u64s_one _) (by omega) (by unfold maxLen; omega) (by omega) (by have := HE.out.size; rw [size_alloc]; omega) _ rfl ?_; intro g9 cap9 w9 ro9 gr9 wh9 lt9))
              | fail)
            rw [HV1.out] at ro9
            have ts9 := (HTS.out.below ((Below.refl _ _).alloc (Nat.le_refl _) _)).addA ro9 gr9 wh9
            have hb9 : Below w.heap.size w w9 := (HE.out.alloc HE.out.size _).grown gr9 (by rw [size_alloc]; have := HE.out.size; omega) (fun k hk => (HTS.out.a.lt k hk).1)
            have TS9 := hide1 ts9
            have HE9 := hide1 hb9
            clear ro9 gr9 wh9 lt9 ts9 hb9 cx0 HTS HE KF
            go_wp2
            go_roundw
            case rel => exact ⟨i + 1, p + 1, by omega, by have := HPI.out; omega, by go_num, TS9.out, HE9.out⟩
            case measure => simp [intOf]; omega
          · obtain rfl : i = n := by omega
            have HTS := hide1 hts
            have HE := hide1 hbe
            have HPI := hide1 hpi
            clear hts hbe hpi
            go_wp2
            go_roundw
            case rel => exact ⟨j + 1, p, by omega, by rw [HPI.out, Nat.succ_mul], by go_num, HTS.out, HE.out⟩
            case measure => simp [intOf]; omega
      | true =>
        have HSF : Shy (flt SS j ++ s1 = flt SS (j + 1)) := ⟨HSF0.out⟩
        have hr2 := range_below HRA.out.2 zb (Nat.lt_of_lt_of_le hga HE.out.size)
        have HR2 := hide1 hr2
        have ZBz := hide1 zb
        have HGZ := hide1 hgz
        clear hZ1 z0 zb hgz hr2
        go_upto_region 11 with (first
          | (refine wpList_load_mid rfl 46 (.tmp 81) rfl ga (ja + 32) rfl (u8s s1) _ HR2.out Try.underlying46 rfl hiq' ?_)
          | (refine wpList_store_own rfl 46 (.tmp 14) (.tmp 82) rfl gz rfl (u8s s1).toArray rfl 46 _ Z0.out his1 HZq.out (all_one (u8s_one _)) ?_)
          | fail)
        generalize hZ2 : World.setRow _ _ _ = Z2
        have z0 : Z2.heap[gz]? = some (.cells (u8s s1).toArray 46 (0, 0)) := by rw [← hZ2]; exact setRow_heap _ _ _ _ _ _ Z0.out
        have zb : Below wr.heap.size wr Z2 := by rw [← hZ2]; exact Below.setRow' ZBz.out (by rw [HGZ.out]; exact Nat.le_refl _) _
        have Z0b := hide1 z0
        have TS1 := hide1 (HTS.out.below zb)
        have ZB1 := hide1 (HE.out.trans (zb.mono HE.out.size))
        clear hZ2 z0 zb HTS HE HRA HCC HSF0 Z0 HR2 ZBz HGZ
        go_upto_region 12 with (first
          | (refine wpList_load_row rfl 46 (.tmp 14) rfl gz rfl 46 (u8s s1).toArray (0, 0) _ Z0b.out Try.underlying46 rfl his1 ?_)
          | (refine wpList_build_seed rfl (.tmp 84) rfl rfl HLs1.out ?_)
          | (at_builtin; go_must (refine wpList_append_lies _ rfl (.tmp 83) (.tmp 85) 34 rfl w.heap.size 46 i1 (arr8 (zeros 32)) 32 32 Try.underlying34 hi1 hy0 hy1 hy2 (by kernel_rfl) (by decide) (.slice lb j lcb) j (u8s (flt SS j)) rfl (TS1.out.b.alloc _) ⟨Z2.heap.size, 0, none⟩ 1 1 (u8s s1) rfl HMs1.out (World.news_of_block (heap_alloc_new Z2 (row8 46 s1))) (u8s_one _) (by omega) (by unfold maxLen; omega) (by omega) (by have := ZB1.out.size; rw [size_alloc]; omega) _ rfl ?_; intro g8 cap8 w8 ro8 gr8 wh8 lt8))
          | fail)
        rw [← u8s_append, HSF.out] at ro8
        have ts8 := (TS1.out.below ((Below.refl _ _).alloc (Nat.le_refl _) _)).addB ro8 gr8 wh8
        have hb8 : Below w.heap.size w w8 := (ZB1.out.alloc ZB1.out.size _).grown gr8 (by rw [size_alloc]; have := ZB1.out.size; omega) (fun k hk => (TS1.out.b.lt k hk).1)
        have TS8 := hide1 ts8
        have HB8 := hide1 hb8
        clear ro8 hb8 gr8 wh8 lt8 ts8 TS1 ZB1 Z0b HSF hc1
        go_wp2
        go_loopw [11, 15] (fun v11 v15 wr => ∃ i p : Nat, i ≤ n ∧ p = j * n + i ∧ v15 = .int .i64 i ∧ Ts wr w.heap.size v11 p F (.slice (some ⟨g8, 0, none⟩) (j + 1) cap8) (j + 1) SS ∧ Below w.heap.size w wr) (fun _ v15 _ => n - (intOf v15).toNat)
        case atStart => exact ⟨0, p, Nat.zero_le _, by rw [HP0.out]; rfl, rfl, TS8.out, HB8.out⟩
        case round =>
          obtain ⟨i, p, hi9, hpi, rfl, hts, hbe⟩ := hrel
          obtain ⟨la, lc, rfl⟩ := own_form hts.a
          by_cases hli : i < n
          · have hpQ : p < Q := by rw [hpi, HQ.out]; exact place_lt hlt hli
            have bp : (p : Int) < (N : Int) := by omega
            have bp2 : (p : Int) < 120 := by omega
            have bi : (i : Int) < (n : Int) := by omega
            have bi6 : (i : Int) < 6 := by omega
            obtain ⟨q, hq⟩ : ∃ q, q = j * n := ⟨_, rfl⟩
            have e2 : IntKind.i64.wrap ((j : Int) * (n : Int)) = (q : Int) := by rw [← Int.natCast_mul, ← hq, wrap_i64_nat (by omega)]
            have e3 : (q : Int) + (i : Int) = (p : Int) := by omega
            have bq : (q : Int) ≤ 120 := by omega
            have e4 : IntKind.i64.wrap (p : Int) = (p : Int) := wrap_i64_nat (by omega)
            obtain ⟨gx, ox, rfl, cx0⟩ := nl_val (HX.out.below hbe (Nat.le_refl _)) (show p < N by omega)
            have KF := hide1 (kF.out p)
            obtain ⟨v1, hv1⟩ : ∃ v, v = F p := ⟨_, rfl⟩
            rw [← hv1] at KF
            have HV1 := hide1 hv1
            generalize at0 xs p = x at *
            obtain ⟨jx, hjx⟩ : ∃ t, t = ox + p := ⟨_, rfl⟩
            rw [← hjx] at cx0
            have ejx : ox + p = jx := hjx.symm
            have HTS := hide1 hts
            have HE := hide1 hbe
            have HPI := hide1 hpi
            clear hts hbe hv1 hjx hpi hq
            go_wp2_with (first
              | (go_at_call 15; refine (KF.out _).mono ?_; rintro e w' ⟨rfl, he9⟩; obtain rfl := he9.symm; clear he9)
              | (at_builtin; go_must (refine wpList_append_lies _ rfl (.tmp 92) (.tmp 103) 23 rfl w.heap.size 49 i0 (.int .u64 0) 1 8 Try.underlying23 hi hz0 hz1 hz2 rfl (by decide) (.slice la p lc) p (V.u64s (tl F p)) rfl (HTS.out.a.alloc _) ⟨wr.heap.size, 0, none⟩ 1 1 (V.u64s [v1]) rfl rfl (World.news_of_block (heap_alloc_new wr (V.wrow [v1]))) (V.u64s_one _) (by omega) (by unfold maxLen; omega) (by omega) (by have := HE.out.size; rw [size_alloc]; omega) _ rfl ?_; intro g9 cap9 w9 ro9 gr9 wh9 lt9))
              | fail)
            rw [HV1.out] at ro9
            have ts9 := (HTS.out.below ((Below.refl _ _).alloc (Nat.le_refl _) _)).addA ro9 gr9 wh9
            have hb9 : Below w.heap.size w w9 := (HE.out.alloc HE.out.size _).grown gr9 (by rw [size_alloc]; have := HE.out.size; omega) (fun k hk => (HTS.out.a.lt k hk).1)
            have TS9 := hide1 ts9
            have HE9 := hide1 hb9
            clear ro9 gr9 wh9 lt9 ts9 hb9 cx0 HTS HE KF
            go_wp2
            go_roundw
            case rel => exact ⟨i + 1, p + 1, by omega, by have := HPI.out; omega, by go_num, TS9.out, HE9.out⟩
            case measure => simp [intOf]; omega
          · obtain rfl : i = n := by omega
            have HTS := hide1 hts
            have HE := hide1 hbe
            have HPI := hide1 hpi
            clear hts hbe hpi
            go_wp2
            go_roundw
            case rel => exact ⟨j + 1, p, by omega, by rw [HPI.out, Nat.succ_mul], by go_num, HTS.out, HE.out⟩
            case measure => simp [intOf]; omega
    · obtain rfl : j = m := by omega
      obtain rfl : p = Q := by rw [hp0, HQ.out]
      have hcA := own_cap hts.a
      have X1 := hide1 (own_nl hts.a)
      have S1 := hide1 (sd_own HGS.out hts.b)
      have HE := hide1 hbe
      have nm : ¬ (j : Int) < (j : Int) := by omega
      have hsl := fun w => run_first ac M cc j (by omega) w
      have bl1 := bl_first HC.out (show j ≤ M by omega)
      have kO := fun V (h : Below w.heap.size w V) => hide1 (T.of_any V j cc ac (ch.take j) (bl1.below h (Nat.le_refl _)) (by omega))
      clear hts hbe hp0 bl1 kF HFl HSE HGS
      go_wp2_with fail
      go_at_call 12
      refine (kO wr HE.out).out.mono ?_
      rintro e w1 ⟨av, rfl, hv, hb1⟩
      go_upto_region 17 with (fail)
      generalize hZ : World.alloc w1 _ = Z
      have zv : Z.heap[w1.heap.size]? = some (.cells #[.int .i64 (j : Int), .slice av (T.need j 64) (T.need j 64)] 37 (0, 0)) := by rw [← hZ]; exact heap_alloc_new _ _
      have zb : Below w1.heap.size w1 Z := by rw [← hZ]; exact (Below.refl _ _).alloc (Nat.le_refl _) _
      obtain ⟨gv, hgv⟩ : ∃ g, g = w1.heap.size := ⟨_, rfl⟩
      rw [← hgv] at zv
      rw [← hgv]
      have hb := hb1.trans (zb.mono hb1.size)
      have B1 := hide1 (HE.out.trans (hb.mono HE.out.size))
      have VC : Hid (T.Vc 0 Z j av (ch.take j)) := (hv.below zb (Nat.le_refl _)).mono (Nat.zero_le _)
      have X1 := hide1 (X1.out.below hb (Nat.le_refl _))
      have S1 := hide1 (S1.out.below hb (Nat.le_refl _))
      have ZV := hide1 zv
      clear hZ zv zb hgv hv hb1 hb kO HE hsl
      go_wp2_with fail
      go_at_call 9
      refine (pairs_any j c a f Z (HP.out.below B1.out (Nat.le_refl _)) (by omega)).mono ?_
      rintro e w2 ⟨g1, d1, rfl, hp1, hb⟩
      have B2 := hide1 (B1.out.trans (hb.mono B1.out.size))
      have VC := hide1 (VC.out.below hb (Nat.le_refl _))
      have X1 := hide1 (X1.out.below hb (Nat.le_refl _))
      have S1 := hide1 (S1.out.below hb (Nat.le_refl _))
      have ZV := hide1 ((hb.block _ (lt_heap ZV.out)).trans ZV.out)
      have P1 := hide1 hp1
      clear hp1 hb B1
      go_wp2_with fail
      go_at_call 8
      refine (kS.out _ _ _ _ w2 hcA P1.out X1.out).mono ?_
      rintro e w3 ⟨a1, c1, a2, c2, rfl, r1, r2, hb, hc1⟩
      have B3 := hide1 (B2.out.trans (hb.mono B2.out.size))
      have VC := hide1 (VC.out.below hb (Nat.le_refl _))
      have X1 := hide1 (X1.out.below hb (Nat.le_refl _))
      have S1 := hide1 (S1.out.below hb (Nat.le_refl _))
      have zv := (hb.block _ (lt_heap ZV.out)).trans ZV.out
      obtain ⟨m0, m1, _⟩ := T.box2 zv
      have R1 := hide1 r1
      have R2 := hide1 r2
      clear r1 r2 hb B2 P1 kS ZV zv
      go_wp2_with fail
      go_at_call 13
      refine (kR.out _ _ av _ _ w3 hc1 S1.out VC.out R1.out).mono ?_
      rintro e w4 ⟨a3, c3, rfl, r3, hb⟩
      have B4 := hide1 (B3.out.trans (hb.mono B3.out.size))
      have X1 := hide1 (X1.out.below hb (Nat.le_refl _))
      have R1 := hide1 (R1.out.below hb (Nat.le_refl _))
      have R2 := hide1 (R2.out.below hb (Nat.le_refl _))
      have R3 := hide1 r3
      clear r3 hb B3 VC S1 kR m0 m1
      go_wp2_with fail
      go_at_call 16
      refine (kP.out _ _ _ _ w4 R2.out R3.out).mono ?_
      rintro e w5 ⟨a4, c4, rfl, r4, hb⟩
      have B5 := hide1 (B4.out.trans (hb.mono B4.out.size))
      have X1 := hide1 (X1.out.below hb (Nat.le_refl _))
      have R1 := hide1 (R1.out.below hb (Nat.le_refl _))
      have R2 := hide1 (R2.out.below hb (Nat.le_refl _))
      have R3 := hide1 (R3.out.below hb (Nat.le_refl _))
      have R4 := hide1 r4
      have pp : ((p : Int) != (p : Int)) = false := by rw [bne_eq_false_iff_eq]
      clear r4 hb B4 kP
      go_wp2_with fail
      go_at_call 17
      refine (kT.out _ HFX.out _ _ w5 R1.out).mono ?_
      rintro e w6 ⟨rfl, q6, hq⟩
      have hb : Below w5.heap.size w5 w6 := by rw [hq]; exact below_drewN' (Below.refl _ _) q6
      have B6 := hide1 (B5.out.trans (hb.mono B5.out.size))
      have X1 := hide1 (X1.out.below hb (Nat.le_refl _))
      have R2 := hide1 (R2.out.below hb (Nat.le_refl _))
      have R3 := hide1 (R3.out.below hb (Nat.le_refl _))
      have R4 := hide1 (R4.out.below hb (Nat.le_refl _))
      clear hq hb B5 R1
      go_wp2_with fail
      go_at_call 17
      refine (kT.out _ HOW.out _ _ w6 R2.out).mono ?_
      rintro e w7 ⟨rfl, q7, hq⟩
      have hb : Below w6.heap.size w6 w7 := by rw [hq]; exact below_drewN' (Below.refl _ _) q7
      have B7 := hide1 (B6.out.trans (hb.mono B6.out.size))
      have X1 := hide1 (X1.out.below hb (Nat.le_refl _))
      have R3 := hide1 (R3.out.below hb (Nat.le_refl _))
      have R4 := hide1 (R4.out.below hb (Nat.le_refl _))
      clear hq hb B6 R2
      go_wp2_with fail
      go_at_call 17
      refine (kT.out _ HGT.out _ _ w7 R3.out).mono ?_
      rintro e w8 ⟨rfl, q8, hq⟩
      have hb : Below w7.heap.size w7 w8 := by rw [hq]; exact below_drewN' (Below.refl _ _) q8
      have B8 := hide1 (B7.out.trans (hb.mono B7.out.size))
      have X1 := hide1 (X1.out.below hb (Nat.le_refl _))
      have R4 := hide1 (R4.out.below hb (Nat.le_refl _))
      clear hq hb B7 R3
      have nz : ((n : Int) == 0) = false := by rw [beq_eq_false_iff_ne]; omega
      clear kT HFX HOW HGT pp
      go_wp2
      go_loopw [25] (fun v25 wr => ∃ k : Nat, k ≤ p ∧ v25 = .int .i64 k ∧ Below w8.heap.size w8 wr) (fun v25 _ => p - (intOf v25).toNat)
      case atStart => exact ⟨0, Nat.zero_le _, rfl, Below.refl _ _⟩
      case round =>
        obtain ⟨k, hk, rfl, hbe⟩ := hrel
        by_cases hlt : k < p
        · have bk : (k : Int) < (p : Int) := by omega
          have bk2 : (k : Int) < 120 := by omega
          have hkd := HKN.out k hlt
          obtain ⟨kd, hkd2⟩ : ∃ d, d = k / n := ⟨_, rfl⟩
          have hek := HEE.out k
          rw [← hkd2] at hkd hek
          have f3 : Value.int .i64 (wrap64 ((k : Int) / (n : Int))) = Value.int .i64 (kd : Int) := by
            rw [show (k : Int) / (n : Int) = ((k / n : Nat) : Int) from rfl, ← hkd2]
            exact congrArg (Value.int .i64) (IntWalk.wrap64_in _ ⟨by omega, by omega⟩)
          have bd : (kd : Int) < (M : Int) := by omega
          obtain ⟨bc, hbc⟩ : ∃ bc, ch[kd]? = some bc := ⟨_, List.getElem?_eq_getElem (by rw [HC.out.len]; omega)⟩
          obtain ⟨gc, oc, rfl, hcc0⟩ := HC.out.at' kd bc hbc
          have hcw := ((B8.out.trans (hbe.mono B8.out.size)).cell (p := ⟨gc, oc + kd, none⟩) (T.lt_cell hcc0)).trans hcc0
          rw [List.getD_eq_getElem?_getD, hbc] at hek
          obtain ⟨gx, ox, ex, cx0⟩ := nl_val (X1.out.below hbe (Nat.le_refl _)) hlt
          obtain ⟨gy, oy, ey, cy0⟩ := nl_val (R4.out.below hbe (Nat.le_refl _)) hlt
          rw [tl_at hlt] at cx0 cy0
          subst ex
          subst ey
          obtain ⟨jx, hjx⟩ : ∃ t, t = ox + k := ⟨_, rfl⟩
          obtain ⟨jy, hjy⟩ : ∃ t, t = oy + k := ⟨_, rfl⟩
          obtain ⟨jc, hjc⟩ : ∃ t, t = oc + kd := ⟨_, rfl⟩
          rw [← hjx] at cx0
          rw [← hjy] at cy0
          rw [← hjc] at hcw
          have ejx : ox + k = jx := hjx.symm
          have ejy : oy + k = jy := hjy.symm
          have ejc : oc + kd = jc := hjc.symm
          clear hjx hjy hjc
          have HE := hide1 hbe
          clear hbe hbc hcc0 hkd2 hkd
          cases bc with
          | true =>
            have hek2 : E k = F k := hek
            rw [hek2] at cy0
            generalize F k = v at *
            have vv : ((v : Int) != (v : Int)) = false := by rw [bne_eq_false_iff_eq]
            clear hek hek2
            go_wp2
            go_roundw
            case rel => exact ⟨k + 1, by omega, by go_num, HE.out⟩
            case measure => simp [intOf]; omega
          | false =>
            have hek2 : E k = 0 := hek
            rw [hek2] at cy0
            have cy1 : wr.cell? ⟨gy, jy, none⟩ = some (.int .u64 0) := cy0
            clear hek hek2 cy0 cx0
            go_wp2
            go_roundw
            case rel => exact ⟨k + 1, by omega, by go_num, HE.out⟩
            case measure => simp [intOf]; omega
        · obtain rfl : k = p := by omega
          have nk : ¬ (k : Int) < (k : Int) := by omega
          have HE := hide1 (B8.out.trans (hbe.mono B8.out.size))
          clear hbe
          go_wp2_with fail
          go_at_call 7
          refine (kA _).out.mono ?_
          rintro e w9 ⟨rfl, hb9⟩
          have B9 := hide1 (HE.out.trans (hb9.mono HE.out.size))
          clear hb9
          go_wp2
          go_ret
          exact ⟨rfl, B9.out⟩

theorem opens_all (W n : Int) (m N M c cx cc : Nat) (a ax ac : Option Addr) (f : Nat → List Nat) (xs : List Nat) (ch : List Bool) (w : World) (hp : Pd w m a f) (hx : T.Nl w N ax xs) (hs : Ri.Small xs) (hv : T.Bl w M ac ch) (hcc : M ≤ cc) :
    Calls Try.prog 5 #[.int .i64 W, .int .i64 n, .slice a m c, .slice ax N cx, .slice ac M cc] w fun e w' => e = .returned (.bool true) ∧ Below w.heap.size w w' := by
  by_cases h : W < 1 ∨ 64 < W ∨ n < 1 ∨ 6 < n ∨ 20 < m ∨ M < m ∨ (N : Int) < n * (m : Int)
  · exact opens_else W n m N M c cx cc a ax ac w h
  · obtain ⟨B, rfl⟩ : ∃ B : Nat, W = (B : Int) := ⟨W.toNat, by omega⟩
    obtain ⟨k, rfl⟩ : ∃ k : Nat, n = (k : Int) := ⟨n.toNat, by omega⟩
    have e9 : (k : Int) * (m : Int) = ((k * m : Nat) : Int) := (Int.natCast_mul _ _).symm
    rw [e9] at h
    generalize hQ : k * m = Q at h
    exact opens_in B k m N M c cx cc a ax ac f xs ch w hp hx hs hv hcc (by omega) (by omega) (by omega) (by omega) (by omega) (by omega) (by rw [hQ]; omega)
end Go.Proofs.Ytdmodknjcdkocaa.Co
