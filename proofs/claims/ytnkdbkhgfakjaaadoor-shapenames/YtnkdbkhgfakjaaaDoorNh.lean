/- The document's Parse: the walk. -/
import Derived.Test.YtnkdbkhgfakjaaaDoorNg
import Derived.Maps.AppendAt
import Derived.OwnWalk
namespace Go.Proofs.YtnkdbkhgfakjaaaDoor
open Go.RowKit
set_option maxRecDepth 100000
attribute [local go_sem] not_any mf_any

theorem row_form9 {w : World} {base : Nat} {e : TypeId} {size n : Nat} {v : Value} {xs : List Value} (h : w.ownsRow base e size v n xs) : ∃ a c, v = .slice a n c := by
  rcases h.2 with ⟨h1, h2⟩ | ⟨g, cap, cur, h1, _⟩
  · exact ⟨none, 0, by rw [h1, h2]⟩
  · exact ⟨_, _, h1⟩
theorem row_some9 {w : World} {base : Nat} {e : TypeId} {size n : Nat} {v : Value} {xs : List Value} (h : w.ownsRow base e size v n xs) (hn : 0 < n) : ∃ g c, v = .slice (some ⟨g, 0, none⟩) n c ∧ base ≤ g ∧ g < w.heap.size := by
  rcases h.2 with ⟨h1, h2⟩ | ⟨g, cap, cur, h1, h2, h3, _⟩
  · omega
  · exact ⟨g, cap, h1, h2, lt_heap h3⟩
theorem keep_alloc9 {w : World} {b : Nat} {o : Obj} (h : w.heap[b]? = some o) (o' : Obj) : (w.alloc o').heap[b]? = some o := (Below.heap_alloc _ _ _ (lt_heap h)).trans h
theorem run_mid (s : ByteArray) (p q : Nat) (h1 : p ≤ q) (h2 : q ≤ s.size) (w : World) : (Instr.slice 9 (.string s) (some (.int .i64 (p : Int))) (some (.int .i64 (q : Int))) none).run Tryd.prog w = .ok (.string (s.extract p q)) w := by
  have := run_slice_string (P := Tryd.prog) w 9 s .i64 .i64 (p : Int) (q : Int) Tryd.underlying9 (by omega) (by omega) (by omega)
  simpa using this
def AtN (b : Nat) (x y z : Value) (W : World) : Prop := W.cell? ⟨b, 1, none⟩ = some x ∧ W.cell? ⟨b, 2, none⟩ = some y ∧ W.cell? ⟨b, 3, none⟩ = some z ∧ b < W.heap.size
theorem AtN.set {b g : Nat} {x y z : Value} {W : World} (h : AtN b x y z W) (hne : b ≠ g) (o : Nat) (v : Value) : AtN b x y z (W.setCell ⟨g, o, none⟩ v) := by
  have e : ∀ k, (W.setCell ⟨g, o, none⟩ v).cell? ⟨b, k, none⟩ = W.cell? ⟨b, k, none⟩ := fun k => by simp [World.cell?, heap_setCell_other W ⟨g, o, none⟩ b v hne]
  unfold AtN
  rw [e, e, e]
  exact ⟨h.1, h.2.1, h.2.2.1, by simpa using h.2.2.2⟩
theorem info3 : (Tryd.prog.info? 3).map (fun i => (i.zero, i.size, i.bytes)) = some (some (.int .i64 0), 1, 8) := by kernel_rfl

set_option maxHeartbeats 8000000 in
theorem rparse_1 (s : ByteArray) (w : World) (hs : s.size ≤ 200) (h0 : 0 < s.size) (hX : (s[0]'h0).toNat = 115) :
    Calls Tryd.prog 7 #[.string s] w fun e w' => e = .returned (.tuple #[(parV (clsR 1 (tot ((bs s).drop 1) σ0)).1 (clsR 1 (tot ((bs s).drop 1) σ0)).2).1.v, .int .i64 (parV (clsR 1 (tot ((bs s).drop 1) σ0)).1 (clsR 1 (tot ((bs s).drop 1) σ0)).2).2]) ∧ Below w.heap.size w w' := by
  have mx := mixed
  obtain ⟨i0, hi, hi0, hi1, hi2⟩ := info_parts info3
  have hnb : (s.toList == [98]) = false := isb_no (fun e => by
    have h := bs_at h0
    rw [e, hX] at h
    simp at h)
  have hb115 : (((s[0]'h0).toNat : Int) == 115) = true := by simp [hX]
  have hb109 : (((s[0]'h0).toNat : Int) == 109) = false := by simp [hX]
  have hb100 : (((s[0]'h0).toNat : Int) == 100) = false := by simp [hX]
  have hz0 : (0 : Int) < (s.size : Int) := by omega
  have hl := bs_length s
  obtain ⟨T, hT⟩ : ∃ T, tot ((bs s).drop 1) σ0 = T := ⟨_, rfl⟩
  rw [hT]
  have HT0 : Shy (T = tot ((bs s).drop 1) σ0) := ⟨hT.symm⟩
  clear hT hX
  go_enter Tryd.func7, Tryd.ntmps7
  go_upto_region 12 with (fail)
  generalize hX : World.alloc w _ = X
  have HX : Hid (Below w.heap.size w X) := by rw [← hX]; exact below1 _
  have H2 := hide1 (hX ▸ heap_alloc_new w _)
  have hXs : X.heap.size = w.heap.size + 1 := by rw [← hX]; simp
  obtain ⟨b2, hb2⟩ : ∃ b, w.heap.size = b := ⟨_, rfl⟩
  rw [hb2] at H2 ⊢
  have HB2 : Shy (w.heap.size = b2) := ⟨hb2⟩
  rw [hb2] at hXs
  clear hX hb2 hb115 hb109 hb100 hnb hz0
  go_wp2_with fail
  go_loopw [5, 6, 7, 8, 9] (fun mv nv xv lv iv wr => ∃ (i : Nat) (σ : St) (t : ByteArray), 1 ≤ i ∧ iv = .int .i64 i ∧ mv = .string t ∧ bs t = σ.ms ∧ xv = .int .i64 (σ.n : Int) ∧ lv = .int .i64 (σ.len : Int) ∧ wr.ownsRow (b2 + 1) 3 1 nv σ.ns.length (σ.ns.map (fun x : Nat => Value.int .i64 (x : Int))) ∧ Below w.heap.size w wr ∧ wr.heap[b2]? = some (crow 0 0 0 0 0) ∧ σ.len ≤ 3 ∧ σ.n < 10 ^ σ.len ∧ σ.ms.length < i ∧
      ((i ≤ s.size ∧ σ.ns.length = σ.ms.length ∧ T = tot ((bs s).drop i) σ) ∨ (i = s.size + 1 ∧ σ.ns.length = σ.ms.length + 1 ∧ T = some (σ.ms, σ.ns)))) (fun _ _ _ _ iv _ => s.size + 1 - (intOf iv).toNat)
  case atStart => exact ⟨1, σ0, ⟨#[]⟩, Nat.le_refl _, rfl, rfl, rfl, rfl, rfl, World.ownsRow_nil _ _ _ _, HX.out, H2.out, by decide, by decide, by decide, Or.inl ⟨h0, rfl, HT0.out⟩⟩
  case round =>
    obtain ⟨i, ⟨ms, ns, n, ln⟩, t, hi1', rfl, rfl, hms, rfl, rfl, hrow, hB, h2, hl3, hn3, hml, hor⟩ := hrel
    dsimp only at *
    have QB := hide1 hB
    have Q2 : Hid (wr.heap[b2]? = some (.cells #[.int .i64 0, .int .i64 0, .int .i64 0, .int .i64 0, .int .i64 0] 23 (0, 0))) := h2
    have QR := hide1 hrow
    have hts : t.size = ms.length := by rw [← bs_length, hms]
    have HMS : Shy (bs t = ms) := ⟨hms⟩
    have hn1000 : n < 1000 := Nat.lt_of_lt_of_le hn3 (Nat.le_trans (Nat.pow_le_pow_right (by omega) hl3) (by decide))
    have hsz := hB.size
    have hbw : b2 < wr.heap.size := lt_heap h2
    clear hrow hB h2 hms HT0
    rcases hor with ⟨hile, hnl, hT⟩ | ⟨hie, hnl, hT⟩
    · by_cases hlt : i < s.size
      · have hx := bs_at hlt
        have hd : (bs s).drop i = (s[i]'hlt).toNat :: (bs s).drop (i + 1) := by
          have h' : i < (bs s).length := by omega
          rw [List.drop_eq_getElem_cons h']
          congr 1
          have := List.getElem?_eq_getElem h'
          rw [hx] at this
          exact (Option.some.inj this).symm
        rw [hd, tot] at hT
        have hby := (s[i]'hlt).toNat_lt
        have HSX : Shy ((bs s)[i]? = some (s[i]'hlt).toNat) := ⟨hx⟩
        clear hd hx
        have hil : (i : Int) < (s.size : Int) := by omega
        have hile' : (i : Int) ≤ (s.size : Int) := by omega
        generalize hxx : (s[i]'hlt).toNat = x at *
        have hxe : (s[i]'hlt).toNat = x := hxx
        by_cases hD : isD x
        · rw [stepD, if_pos hD] at hT
          have hd1 : (48 : Int) ≤ (x : Int) := by have := hD.1; omega
          have hd2 : (x : Int) ≤ 57 := by have := hD.2; omega
          by_cases hbad : (ln = 0 ∧ x = 48) ∨ ln = 3
          · rw [if_pos hbad] at hT
            have HT : Shy (T = none) := ⟨hT⟩
            clear hT
            rcases hbad with ⟨rfl, rfl⟩ | rfl
            · skip
              have HF : Shy (parV (clsR 1 T).1 (clsR 1 T).2 = (Cl.zero, 13)) := ⟨by rw [HT.out]; rfl⟩
              obtain ⟨f0, f1, f2, f3, f4⟩ := free5 Q2.out
              obtain ⟨c0, c1, c2, c3, c4, l0⟩ := box5 Q2.out
              go_wp2
              rw [HF.out]
              exact ret_c2 Tryd.results7 b2 _ _ _ _ _ _ rfl rfl (set_box5 (w := wr) Q2.out) rfl ⟨rfl, below_box5 QB.out (Nat.le_of_eq HB2.out)⟩
            · skip
              have HF : Shy (parV (clsR 1 T).1 (clsR 1 T).2 = (Cl.zero, 13)) := ⟨by rw [HT.out]; rfl⟩
              obtain ⟨f0, f1, f2, f3, f4⟩ := free5 Q2.out
              obtain ⟨c0, c1, c2, c3, c4, l0⟩ := box5 Q2.out
              go_wp2
              rw [HF.out]
              exact ret_c2 Tryd.results7 b2 _ _ _ _ _ _ rfl rfl (set_box5 (w := wr) Q2.out) rfl ⟨rfl, below_box5 QB.out (Nat.le_of_eq HB2.out)⟩
          · rw [if_neg hbad] at hT
            have HT : Shy (T = tot ((bs s).drop (i + 1)) ⟨ms, ns, 10 * n + (x - 48), ln + 1⟩) := ⟨hT⟩
            have HD := hide1 hD
            have e1 : IntKind.i64.wrap (10 * (n : Int)) = 10 * (n : Int) := by rw [IntKind.wrap_i64]; omega
            have e2 : IntKind.i64.wrap (10 * (n : Int) + (x : Int)) = 10 * (n : Int) + (x : Int) := by rw [IntKind.wrap_i64]; omega
            have e3 : IntKind.i64.wrap (10 * (n : Int) + (x : Int) - 48) = 10 * (n : Int) + (x : Int) - 48 := by rw [IntKind.wrap_i64]; omega
            have e4 : IntKind.i64.wrap (x : Int) = (x : Int) := by rw [IntKind.wrap_i64]; omega
            have e5 : IntKind.i64.wrap ((ln : Int) + 1) = (ln : Int) + 1 := by rw [IntKind.wrap_i64]; omega
            have hl4 : ((ln : Int) == 3) = false := by simp; omega
            have HN3 : Shy (10 * n + (x - 48) < 10 ^ (ln + 1)) := ⟨by rw [Nat.pow_succ]; have := HD.out.2; omega⟩
            have HLN : Shy (ln + 1 ≤ 3) := ⟨by omega⟩
            have HHL : Shy (ms.length < i + 1 ∧ ns.length = ms.length) := ⟨by omega, hnl⟩
            by_cases hl0 : ln = 0
            · have hl1 : ((ln : Int) == 0) = true := by simp [hl0]
              have hx48 : ((x : Int) == 48) = false := by simp; intro e; exact hbad (Or.inl ⟨hl0, by omega⟩)
              clear hT hbad hD hl3 hn3
              go_wp2
              go_roundw
              case rel => exact ⟨i + 1, ⟨ms, ns, 10 * n + (x - 48), ln + 1⟩, t, by omega, by go_num, rfl, HMS.out, by show _ = Value.int .i64 ((10 * n + (x - 48) : Nat) : Int); congr 1; have := HD.out.1; omega, by go_num, QR.out, QB.out, Q2.out, HLN.out, HN3.out, HHL.out.1, Or.inl ⟨by omega, HHL.out.2, HT.out⟩⟩
              case measure => simp [intOf]; omega
            · have hl1 : ((ln : Int) == 0) = false := by simp; omega
              clear hT hbad hD hl3 hn3
              go_wp2
              go_roundw
              case rel => exact ⟨i + 1, ⟨ms, ns, 10 * n + (x - 48), ln + 1⟩, t, by omega, by go_num, rfl, HMS.out, by show _ = Value.int .i64 ((10 * n + (x - 48) : Nat) : Int); congr 1; have := HD.out.1; omega, by go_num, QR.out, QB.out, Q2.out, HLN.out, HN3.out, HHL.out.1, Or.inl ⟨by omega, HHL.out.2, HT.out⟩⟩
              case measure => simp [intOf]; omega
        · rw [stepD, if_neg hD] at hT
          by_cases hl0 : ln = 0
          · rw [if_pos hl0] at hT
            have HT : Shy (T = none) := ⟨hT⟩
            have hl1 : ((ln : Int) == 0) = true := by simp [hl0]
            clear hT hl0
            by_cases hlo : x < 48
            · have hd1 : ¬ (48 : Int) ≤ (x : Int) := by omega
              have HF : Shy (parV (clsR 1 T).1 (clsR 1 T).2 = (Cl.zero, 13)) := ⟨by rw [HT.out]; rfl⟩
              obtain ⟨f0, f1, f2, f3, f4⟩ := free5 Q2.out
              obtain ⟨c0, c1, c2, c3, c4, l0⟩ := box5 Q2.out
              go_wp2
              rw [HF.out]
              exact ret_c2 Tryd.results7 b2 _ _ _ _ _ _ rfl rfl (set_box5 (w := wr) Q2.out) rfl ⟨rfl, below_box5 QB.out (Nat.le_of_eq HB2.out)⟩
            · have hd1 : (48 : Int) ≤ (x : Int) := by omega
              have hd2 : ¬ (x : Int) ≤ 57 := by intro h; exact hD ⟨by omega, by omega⟩
              have HF : Shy (parV (clsR 1 T).1 (clsR 1 T).2 = (Cl.zero, 13)) := ⟨by rw [HT.out]; rfl⟩
              obtain ⟨f0, f1, f2, f3, f4⟩ := free5 Q2.out
              obtain ⟨c0, c1, c2, c3, c4, l0⟩ := box5 Q2.out
              go_wp2
              rw [HF.out]
              exact ret_c2 Tryd.results7 b2 _ _ _ _ _ _ rfl rfl (set_box5 (w := wr) Q2.out) rfl ⟨rfl, below_box5 QB.out (Nat.le_of_eq HB2.out)⟩
          · rw [if_neg hl0] at hT
            have HT : Shy (T = tot ((bs s).drop (i + 1)) ⟨ms ++ [x], ns ++ [n], 0, 0⟩) := ⟨hT⟩
            have hcut := fun W => run_mid s i (i + 1) (by omega) (by omega) W
            have ewi : IntKind.i64.wrap ((i : Int) + 1) = ((i + 1 : Nat) : Int) := by rw [IntKind.wrap_i64]; omega
            have hes : (s.extract i (i + 1)).size = 1 := by rw [ByteArray.size_extract]; omega
            have HMS2 : Shy (bs (t ++ s.extract i (i + 1)) = ms ++ [x]) := ⟨by rw [bs_append, HMS.out, bs_extract, List.drop_take]; rw [show i + 1 - i = 1 by omega, List.drop_eq_getElem_cons (show i < (bs s).length by omega)]; have := List.getElem?_eq_getElem (show i < (bs s).length by omega); rw [HSX.out] at this; rw [← Option.some.inj this]; rfl⟩
            obtain ⟨i1, hi1e⟩ : ∃ i1, i + 1 = i1 := ⟨_, rfl⟩
            obtain ⟨te, hte⟩ : ∃ te, s.extract i (i + 1) = te := ⟨_, rfl⟩
            rw [hte] at hcut hes HMS2
            rw [hi1e] at ewi hcut HT
            have HI1 : Shy (i + 1 = i1) := ⟨hi1e⟩
            clear hte hi1e
            obtain ⟨la, lc, rfl⟩ := row_form9 QR.out
            have HOL := hide1 (fun b hb => QR.out.lt b hb)
            have HAR := hide1 (And.intro hbw (And.intro hsz (And.intro hnl hml)))
            have hl1 : ((ln : Int) == 0) = false := by simp; omega
            have hile9 := hide1 (And.intro hile (And.intro hi1' hs))
            have ht200 : t.size ≤ 200 := by omega
            clear hT hl3 hn3 hnl hml hl0 hbw hsz
            by_cases hlo : x < 48
            · have hd1 : ¬ (48 : Int) ≤ (x : Int) := by omega
              clear hlo hD
              go_wp2_with (at_builtin; go_must (refine wpList_append_own _ rfl _ _ 40 rfl (b2 + 1) 3 i0 (.int .i64 0) 1 8 Tryd.underlying40 hi hi0 hi1 hi2 rfl (by decide) _ _ _ rfl (QR.out.alloc _) ⟨wr.heap.size, 0, none⟩ 1 1 [.int .i64 (n : Int)] rfl rfl (cell_one_new _ _ _) (by simp [Value.oneCell']) (by unfold maxLen; have := HAR.out; have := hile9.out; omega) (by have := HAR.out; have := hile9.out; omega) (by have := HAR.out; simp; omega) ?_); intro v' w3 hown' hgrow _; have HG := hide1 hgrow; obtain ⟨la', lc', rfl⟩ := row_form9 hown'; have HO3 := hide1 hown'; have h6 := (hgrow.block b2 (by have := HAR.out; simp; omega) (fun e => by have := (HOL.out b2 e.symm).1; omega)).trans (keep_alloc9 Q2.out _); have H6 := hide1 h6; have l6 := lt_heap h6; clear h6 hown' hgrow)
              go_roundw
              case rel =>
                obtain ⟨q1, q2, q3, q4⟩ := HAR.out
                have := HI1.out
                obtain ⟨r1, r2, r3⟩ := hile9.out
                refine ⟨i1, ⟨ms ++ [x], ns ++ [n], 0, 0⟩, t ++ te, by omega, by go_num, rfl, HMS2.out, rfl, rfl, ?_, ?_, H6.out, Nat.zero_le _, by show 0 < 10 ^ 0; decide, by simp; omega, ?_⟩
                · show w3.ownsRow (b2 + 1) 3 1 _ (ns ++ [n]).length ((ns ++ [n]).map (fun x : Nat => Value.int .i64 (x : Int)))
                  rw [List.length_append, List.map_append]
                  exact HO3.out
                · exact (QB.out.alloc QB.out.size _).grown HG.out (by have := QB.out.size; simp; omega) (fun b hb => by have := (HOL.out b hb).1; have := HB2.out; omega)
                · exact Or.inl ⟨by omega, by simp; omega, HT.out⟩
              case measure => have := HI1.out; simp [intOf]; omega
            · have hd1 : (48 : Int) ≤ (x : Int) := by omega
              have hd2 : ¬ (x : Int) ≤ 57 := by intro h; exact hD ⟨by omega, by omega⟩
              clear hlo hD
              go_wp2_with (at_builtin; go_must (refine wpList_append_own _ rfl _ _ 40 rfl (b2 + 1) 3 i0 (.int .i64 0) 1 8 Tryd.underlying40 hi hi0 hi1 hi2 rfl (by decide) _ _ _ rfl (QR.out.alloc _) ⟨wr.heap.size, 0, none⟩ 1 1 [.int .i64 (n : Int)] rfl rfl (cell_one_new _ _ _) (by simp [Value.oneCell']) (by unfold maxLen; have := HAR.out; have := hile9.out; omega) (by have := HAR.out; have := hile9.out; omega) (by have := HAR.out; simp; omega) ?_); intro v' w3 hown' hgrow _; have HG := hide1 hgrow; obtain ⟨la', lc', rfl⟩ := row_form9 hown'; have HO3 := hide1 hown'; have h6 := (hgrow.block b2 (by have := HAR.out; simp; omega) (fun e => by have := (HOL.out b2 e.symm).1; omega)).trans (keep_alloc9 Q2.out _); have H6 := hide1 h6; have l6 := lt_heap h6; clear h6 hown' hgrow)
              go_roundw
              case rel =>
                obtain ⟨q1, q2, q3, q4⟩ := HAR.out
                have := HI1.out
                obtain ⟨r1, r2, r3⟩ := hile9.out
                refine ⟨i1, ⟨ms ++ [x], ns ++ [n], 0, 0⟩, t ++ te, by omega, by go_num, rfl, HMS2.out, rfl, rfl, ?_, ?_, H6.out, Nat.zero_le _, by show 0 < 10 ^ 0; decide, by simp; omega, ?_⟩
                · show w3.ownsRow (b2 + 1) 3 1 _ (ns ++ [n]).length ((ns ++ [n]).map (fun x : Nat => Value.int .i64 (x : Int)))
                  rw [List.length_append, List.map_append]
                  exact HO3.out
                · exact (QB.out.alloc QB.out.size _).grown HG.out (by have := QB.out.size; simp; omega) (fun b hb => by have := (HOL.out b hb).1; have := HB2.out; omega)
                · exact Or.inl ⟨by omega, by simp; omega, HT.out⟩
              case measure => have := HI1.out; simp [intOf]; omega
      · have hie : i = s.size := by omega
        rw [List.drop_of_length_le (by omega), tot, fin] at hT
        have hil : ¬ (i : Int) < (s.size : Int) := by omega
        have hile' : (i : Int) ≤ (s.size : Int) := by omega
        dsimp only at hT
        by_cases hl0 : ln = 0
        · rw [if_pos hl0] at hT
          have HT : Shy (T = none) := ⟨hT⟩
          have hl1 : ((ln : Int) == 0) = true := by simp [hl0]
          clear hT hl0
          have HF : Shy (parV (clsR 1 T).1 (clsR 1 T).2 = (Cl.zero, 13)) := ⟨by rw [HT.out]; rfl⟩
          obtain ⟨f0, f1, f2, f3, f4⟩ := free5 Q2.out
          obtain ⟨c0, c1, c2, c3, c4, l0⟩ := box5 Q2.out
          go_wp2
          rw [HF.out]
          exact ret_c2 Tryd.results7 b2 _ _ _ _ _ _ rfl rfl (set_box5 (w := wr) Q2.out) rfl ⟨rfl, below_box5 QB.out (Nat.le_of_eq HB2.out)⟩
        · rw [if_neg hl0] at hT
          have HT : Shy (T = some (ms, ns ++ [n])) := ⟨hT⟩
          have HIE : Shy (i = s.size) := ⟨hie⟩
          obtain ⟨la, lc, rfl⟩ := row_form9 QR.out
          have HOL := hide1 (fun b hb => QR.out.lt b hb)
          have HAR := hide1 (And.intro hbw (And.intro hsz (And.intro hnl hml)))
          have hl1 : ((ln : Int) == 0) = false := by simp; omega
          have hile9 := hide1 (And.intro hile (And.intro hi1' hs))
          have ht200 : t.size ≤ 200 := by omega
          clear hT hl3 hn3 hnl hml hl0 hbw hsz hie hlt
          go_wp2_with (at_builtin; go_must (refine wpList_append_own _ rfl _ _ 40 rfl (b2 + 1) 3 i0 (.int .i64 0) 1 8 Tryd.underlying40 hi hi0 hi1 hi2 rfl (by decide) _ _ _ rfl (QR.out.alloc _) ⟨wr.heap.size, 0, none⟩ 1 1 [.int .i64 (n : Int)] rfl rfl (cell_one_new _ _ _) (by simp [Value.oneCell']) (by unfold maxLen; have := HAR.out; have := hile9.out; omega) (by have := HAR.out; have := hile9.out; omega) (by have := HAR.out; simp; omega) ?_); intro v' w3 hown' hgrow _; have HG := hide1 hgrow; obtain ⟨la', lc', rfl⟩ := row_form9 hown'; have HO3 := hide1 hown'; have h6 := (hgrow.block b2 (by have := HAR.out; simp; omega) (fun e => by have := (HOL.out b2 e.symm).1; omega)).trans (keep_alloc9 Q2.out _); have H6 := hide1 h6; have l6 := lt_heap h6; clear h6 hown' hgrow)
          go_roundw
          case rel =>
            obtain ⟨q1, q2, q3, q4⟩ := HAR.out
            have := HIE.out
            obtain ⟨r1, r2, r3⟩ := hile9.out
            refine ⟨i + 1, ⟨ms, ns ++ [n], 0, 0⟩, t, by omega, by go_num, rfl, HMS.out, rfl, rfl, ?_, ?_, H6.out, Nat.zero_le _, by show 0 < 10 ^ 0; decide, by show ms.length < _; omega, ?_⟩
            · show w3.ownsRow (b2 + 1) 3 1 _ (ns ++ [n]).length ((ns ++ [n]).map (fun x : Nat => Value.int .i64 (x : Int)))
              rw [List.length_append, List.map_append]
              exact HO3.out
            · exact (QB.out.alloc QB.out.size _).grown HG.out (by have := QB.out.size; simp; omega) (fun b hb => by have := (HOL.out b hb).1; have := HB2.out; omega)
            · exact Or.inr ⟨by omega, by simp; omega, HT.out⟩
          case measure => simp [intOf]; omega
    · have hgt : ¬ (i : Int) ≤ (s.size : Int) := by omega
      have HT : Shy (T = some (ms, ns)) := ⟨hT⟩
      have hnpos : 0 < ns.length := by omega
      obtain ⟨n0, hn0⟩ : ∃ x, ns[0]? = some x := ⟨ns[0], List.getElem?_eq_getElem hnpos⟩
      obtain ⟨gn, cap, rfl, hgb, hgl⟩ := row_some9 QR.out hnpos
      have a0 : wr.cell? ⟨gn, 0, none⟩ = some (.int .i64 (n0 : Int)) := by rw [QR.out.cellAt 0 (by omega), List.getElem?_map, hn0]; rfl
      have hg0 : ns.getD 0 0 = n0 := by rw [List.getD_eq_getElem?_getD, hn0]; rfl
      have hnz : (ns.length : Int) ≠ 0 := by omega
      by_cases hm0 : ms = []
      · subst hm0
        have et : t = ⟨#[]⟩ := bs_inj (by rw [HMS.out]; rfl)
        subst et
        go_upto_region 29 with (fail)
        generalize hY : World.alloc wr _ = Y
        have L2 := hide1 (hY ▸ keep_alloc9 Q2.out _)
        have L10 := hide1 (hY ▸ heap_alloc_new wr _)
        have LB : Hid (Below w.heap.size w Y) := by rw [← hY]; exact QB.out.alloc QB.out.size _
        skip
        obtain ⟨b10, hb10⟩ : ∃ b, wr.heap.size = b := ⟨_, rfl⟩
        rw [hb10] at L10 ⊢
        have n210 : b2 ≠ b10 := by omega
        clear hY hb10 QB Q2 QR a0 hT
        skip
        obtain ⟨d0, d1, d2, d3, d4, l10⟩ := box5 L10.out
        have kC := fun w => hide1 (rcheck_any 1 (n0 : Int) 0 0 0 w)
        unfold cls at kC
        by_cases hmay : May 1 (n0 : Int) 0 0 0
        · rw [chk_ok hmay] at kC
          have HR : Shy (parV (clsR 1 T).1 (clsR 1 T).2 = (⟨1, (n0 : Int), 0, 0, 0⟩, 0)) := ⟨by rw [HT.out]; simp only [clsR, if_neg (show ¬ (1 : Int) = 2 by decide), if_true, hg0]; show (if true = true then _ else _) = _; rw [if_pos rfl]; exact if_pos hmay⟩
          clear hmay
          go_wp2_with fail
          refine (kC _).out.mono ?_
          rintro e w3 ⟨rfl, hb3⟩
          have K2 := hide1 ((hb3.block _ (lt_heap L2.out)).trans L2.out)
          have K10 := hide1 ((hb3.block _ (lt_heap L10.out)).trans L10.out)
          have KB := hide1 (LB.out.trans (hb3.mono LB.out.size))
          clear hb3 d0 d1 d2 d3 d4 l10
          obtain ⟨d0, d1, d2, d3, d4, l10⟩ := box5 K10.out
          obtain ⟨f0, f1, f2, f3, f4⟩ := free5 K2.out
          obtain ⟨c0, c1, c2, c3, c4, l0⟩ := box5 K2.out
          go_wp2
          rw [HR.out]
          exact ret_c2 Tryd.results7 b2 _ _ _ _ _ _ rfl rfl (set_box5 (w := w3) K2.out) rfl ⟨rfl, below_box5 KB.out (Nat.le_of_eq HB2.out)⟩
        · have hne := chk_not hmay
          have HR : Shy (parV (clsR 1 T).1 (clsR 1 T).2 = (Cl.zero, chk 1 (n0 : Int) 0 0 0)) := ⟨by rw [HT.out]; simp only [clsR, if_neg (show ¬ (1 : Int) = 2 by decide), if_true, hg0]; show (if true = true then _ else _) = _; rw [if_pos rfl]; exact if_neg hmay⟩
          obtain ⟨cx, hcx⟩ : ∃ cx, chk 1 (n0 : Int) 0 0 0 = cx := ⟨_, rfl⟩
          have hcb : (cx != 0) = true := by rw [← hcx]; simpa using hne
          rw [hcx] at kC HR
          clear hmay hne hcx
          go_wp2_with fail
          refine (kC _).out.mono ?_
          rintro e w3 ⟨rfl, hb3⟩
          have K2 := hide1 ((hb3.block _ (lt_heap L2.out)).trans L2.out)
          have K10 := hide1 ((hb3.block _ (lt_heap L10.out)).trans L10.out)
          have KB := hide1 (LB.out.trans (hb3.mono LB.out.size))
          clear hb3 d0 d1 d2 d3 d4 l10
          obtain ⟨d0, d1, d2, d3, d4, l10⟩ := box5 K10.out
          go_wp2_with fail
          refine (kC _).out.mono ?_
          rintro e w4 ⟨rfl, hb4⟩
          have J2 := hide1 ((hb4.block _ (lt_heap K2.out)).trans K2.out)
          have JB := hide1 (KB.out.trans (hb4.mono KB.out.size))
          clear hb4 d0 d1 d2 d3 d4 l10
          obtain ⟨f0, f1, f2, f3, f4⟩ := free5 J2.out
          obtain ⟨c0, c1, c2, c3, c4, l0⟩ := box5 J2.out
          go_wp2
          rw [HR.out]
          exact ret_c2 Tryd.results7 b2 _ _ _ _ _ _ rfl rfl (set_box5 (w := w4) J2.out) rfl ⟨rfl, below_box5 JB.out (Nat.le_of_eq HB2.out)⟩
      · have hte : t.toList.isEmpty = false := by
          rw [Lib.toList_data, List.isEmpty_eq_false_iff]
          intro e
          exact hm0 (by rw [← HMS.out, bs, e]; rfl)
        have HF : Shy (parV (clsR 1 T).1 (clsR 1 T).2 = (Cl.zero, 13)) := ⟨by rw [HT.out]; simp only [clsR, if_neg (show ¬ (1 : Int) = 2 by decide), if_neg hm0]; rfl⟩
        clear hT
        go_upto_region 29 with (fail)
        generalize hY : World.alloc wr _ = Y
        have L2 := hide1 (hY ▸ keep_alloc9 Q2.out _)
        have LB : Hid (Below w.heap.size w Y) := by rw [← hY]; exact QB.out.alloc QB.out.size _
        clear hY
        obtain ⟨f0, f1, f2, f3, f4⟩ := free5 L2.out
        obtain ⟨c0, c1, c2, c3, c4, l0⟩ := box5 L2.out
        go_wp2
        rw [HF.out]
        exact ret_c2 Tryd.results7 b2 _ _ _ _ _ _ rfl rfl (set_box5 (w := Y) L2.out) rfl ⟨rfl, below_box5 LB.out (Nat.le_of_eq HB2.out)⟩

end Go.Proofs.YtnkdbkhgfakjaaaDoor
