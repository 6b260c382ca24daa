/- The law WireBack, walked. -/
import Derived.Test.YtmmhfipdolbinaaWp
import Derived.Test.YtmmhfipdolbinaaWk
import Derived.BigRegion
namespace Go.Proofs.Ytmmhfipdolbinaa
open Go.RowKit
set_option maxRecDepth 100000
attribute [local go_sem] not_any mf_any

def itO (i : It) : Obj := .cells #[.int .i64 i.kind, .int .u64 (i.x : Int), .string i.s, .int .i64 i.width, .slice i.la i.ln i.lc, .slice i.ba i.bn i.bc] 32 (0, 0)
theorem box6 {w : World} {b : Nat} {i : It} (h : w.heap[b]? = some (itO i)) : ItAt w b 0 i := by
  constructor <;> (rw [cell_of_row w b _ _ _ _ h]; rfl)
theorem take_drop_its (l : List It) (k : Nat) : itsB l = itsB (l.take k) ++ itsB (l.drop k) := by
  unfold itsB
  rw [← List.flatMap_append, List.take_append_drop]


theorem rest_at {l : List It} {k : Nat} {i : It} {t rest : ByteArray} (ht : nums t = itsB l ++ nums rest) (hi : l[k]? = some i) : restOf t (itsB (l.take k)).length = itB i ++ (itsB (l.drop (k + 1)) ++ nums rest) := by
  have hk : k < l.length := (List.getElem?_eq_some_iff.1 hi).1
  have e : l.drop k = i :: l.drop (k + 1) := by
    rw [List.drop_eq_getElem_cons hk]
    congr 1
    exact Option.some.inj ((List.getElem?_eq_getElem hk).symm.trans hi)
  rw [restOf, ht, take_drop_its l k, e, List.append_assoc, List.drop_append_of_le_length (Nat.le_refl _), List.drop_of_length_le (Nat.le_refl _), List.nil_append]
  simp [itsB]

set_option maxHeartbeats 8000000 in
theorem back_all (W : World) (n c : Nat) (a : Option Addr) (l : List It) (rest : ByteArray) (hl : Its W n a l) (hh : ∀ i ∈ l, Held i) (hn : n ≤ 281474976710656) (hrest : rest.size ≤ 281474976710656) :
    Calls Try.prog 4 #[.slice a n c, .string rest] W fun e w' => e = .returned (.bool true) ∧ Below W.heap.size W w' := by
  have k0 := hide1 (small_any W n c a l hl hh hn)
  have HI := hide1 hl
  have kA := fun w => hide1 (awake_any w)
  clear hl hh hn
  go_enter Try.func4, Try.ntmps4
  go_wp2_with fail
  refine k0.out.mono ?_
  rintro e w1 ⟨b, rfl, hb, q, rfl⟩
  have hq : Below W.heap.size W (W.drewN q) := ⟨rfl, rfl, rfl, Nat.le_refl _, fun _ _ => rfl⟩
  have HQ := hide1 hq
  clear k0
  cases b with
  | false =>
    clear hb hq
    go_wp2_with (go_at_call 6; refine (kA _).out.mono ?_; rintro e w2 ⟨rfl, hb2⟩)
    go_ret
    exact ⟨rfl, HQ.out.trans (hb2.mono (Nat.le_refl _))⟩
  | true =>
    obtain ⟨h40, hfit⟩ := hb rfl
    by_cases hr2 : 2000 < rest.size
    · have hr2' : (2000 : Int) < (rest.size : Int) := by omega
      clear hb hq
      go_wp2_with (go_at_call 6; refine (kA _).out.mono ?_; rintro e w2 ⟨rfl, hb2⟩)
      go_ret
      exact ⟨rfl, HQ.out.trans (hb2.mono (Nat.le_refl _))⟩
    have hr2' : decide ((2000 : Int) < (rest.size : Int)) = false := by rw [decide_eq_false_iff_not]; omega
    have hr3 : decide (2000 < rest.size) = false := by rw [decide_eq_false_iff_not]; omega
    have k1 := hide1 (written_any (W.drewN q) n c a l (HI.out.next hq) hfit h40)
    have hlen : (itsB l).length ≤ 1200000 := by
      have := take_len (k := n) HI.out hfit h40
      rwa [List.take_of_length_le (by rw [HI.out.len]; omega)] at this
    have hts : (txt (itsB l)).size = (itsB l).length := txt_size (itsB_lt l)
    have hss : ¬ (9223372036854775807 < (txt (itsB l)).size + rest.size) := by omega
    obtain ⟨t, ht⟩ : ∃ t, txt (itsB l) ++ rest = t := ⟨_, rfl⟩
    have HT : Shy (nums t = itsB l ++ nums rest) := ⟨by rw [← ht, nums_append, nums_txt (itsB_lt l)]⟩
    have HTT : Shy (txt (itsB l) ++ rest = t) := ⟨ht⟩
    have HFit := hide1 hfit
    have HLEN := hide1 (show t.size = (itsB l).length + rest.size by rw [size_nums, HT.out, List.length_append, nums_length])
    have hnI : (n : Int) ≤ 40 := by omega
    have hLz : Hid ((itsB l).length ≤ 1200000) := hlen
    obtain ⟨tw, htw⟩ : ∃ tw, txt (itsB l) = tw := ⟨_, rfl⟩
    have HTW : Shy (tw.size = (itsB l).length) := ⟨by rw [← htw]; exact hts⟩
    rw [htw] at k1 hss HTT
    clear hb hq hfit hts ht htw hlen
    go_wp2_with fail
    refine k1.out.mono ?_
    rintro e w2 ⟨rfl, hb2⟩
    have HB2 : Hid (Below W.heap.size W w2) := HQ.out.trans (hb2.mono (Nat.le_refl _))
    clear k1 hb2 HQ
    have kN := hide1 (newReader_any t w2)
    go_wp2_with fail
    rw [HTT.out]
    refine kN.out.mono ?_
    rintro e w3 ⟨rfl, rfl⟩
    clear kN hss
    obtain ⟨g, hg⟩ : ∃ g, w2.heap.size = g := ⟨_, rfl⟩
    have hr0 : (w2.alloc (rdr t 0 0 ⟨#[]⟩)).heap[g]? = some (rdr t 0 0 ⟨#[]⟩) := by rw [← hg]; exact heap_alloc_new _ _
    have hb3 : Below W.heap.size W (w2.alloc (rdr t 0 0 ⟨#[]⟩)) := HB2.out.alloc HB2.out.size _
    have hWg : W.heap.size ≤ g := by rw [← hg]; exact HB2.out.size
    rw [hg]
    generalize w2.alloc (rdr t 0 0 ⟨#[]⟩) = w3 at *
    have HR0 := hide1 hr0
    have HB3 := hide1 hb3
    have HWG := hide1 hWg
    clear hr0 hb3 hg hWg HB2
    go_wp2
    go_loopw [7] (fun i wr => ∃ k : Nat, k ≤ n ∧ i = .int .i64 k ∧ wr.heap[g]? = some (rdr t (itsB (l.take k)).length 0 ⟨#[]⟩) ∧ Below W.heap.size W wr) (fun i _ => n - (intOf i).toNat)
    case atStart => exact ⟨0, Nat.zero_le _, rfl, HR0.out, HB3.out⟩
    case round =>
      obtain ⟨k, hk, rfl, hR, hB⟩ := hrel
      by_cases hlt : k < n
      · obtain ⟨i, hi⟩ : ∃ i, l[k]? = some i := ⟨_, List.getElem?_eq_getElem (by rw [HI.out.len]; exact hlt)⟩
        obtain ⟨⟨gi, o, rfl, hat⟩, hnl, hbl, hx64⟩ := (HI.out.next hB).at' k i hi
        have hrs := rest_at HT.out hi
        have hi1 : (itsB (l.take (k + 1))).length = (itsB (l.take k)).length + (itB i).length := by rw [List.take_add_one, hi]; show (itsB (l.take k ++ [i])).length = _; rw [itsB_snoc, List.length_append]
        have hKt : (itsB (l.take k)).length ≤ t.size := by
          have := congrArg List.length hrs
          have e2 := take_drop_its l k
          rw [HLEN.out, e2, List.length_append]; omega
        have hts : t.size ≤ 281474976710656 := by have := hLz.out; have := HLEN.out; omega
        have hws := hnl.len
        have hbs := hbl.len
        have hfi := HFit.out i (List.mem_of_getElem? hi)
        obtain ⟨c0, c1, c2, c3, c4, c5⟩ := hat
        generalize itsB (l.drop (k + 1)) ++ nums rest = R' at hrs
        obtain ⟨K, hK⟩ : ∃ K, (itsB (l.take k)).length = K := ⟨_, rfl⟩
        rw [hK] at hR hrs hi1 hKt
        have HE : Hid (∀ w2 : World, w2.heap[g]? = some (rdr t (K + (itB i).length) 0 ⟨#[]⟩) → But g (wr.alloc (itO i)) w2 → w2.heap[g]? = some (rdr t (itsB (l.take (k + 1))).length 0 ⟨#[]⟩) ∧ Below W.heap.size W w2) := fun w2 h1 h2 =>
          ⟨by rw [hi1]; exact h1, h2.below (hB.alloc hB.size _) HWG.out (by have := hB.size; simp; omega)⟩
        have HIW : Hid (∀ w2 : World, Below W.heap.size W w2 → Nl w2 i.ln i.la i.ws ∧ Bl w2 i.bn i.ba i.bs) := fun w2 h2 => by
          obtain ⟨_, h3, h4, _⟩ := (HI.out.next h2).at' k i hi
          exact ⟨h3, h4⟩
        have hlg := lt_heap hR
        have hX0 : (wr.alloc (itO i)).heap[wr.heap.size]? = some (itO i) := heap_alloc_new _ _
        have hXR : (wr.alloc (itO i)).heap[g]? = some (rdr t K 0 ⟨#[]⟩) := (Below.heap_alloc _ _ _ hlg).trans hR
        have hXB : Below W.heap.size W (wr.alloc (itO i)) := hB.alloc hB.size _
        have HG : Hid (g < wr.heap.size) := hlg
        have HBX := hide1 hXB
        have HX0 := hide1 hX0
        have HXR := hide1 hXR
        clear hi hR hB hnl hbl hi1 hK hX0 hXR hXB hlg
        have hgx : wr.heap.size ≠ g := by have := HG.out; omega
        obtain ⟨f1, f2, f3, f4⟩ := hfi
        obtain ⟨kind, x, s, width, la, ln, lc, ws, ba, bn, bc, bs⟩ := i
        dsimp only at *
        unfold itO at HE HBX HX0 HXR
        dsimp only at HE HBX HX0 HXR
        by_cases h0 : kind = 0
        · subst h0
          rw [itB0 rfl] at hrs HE
          dsimp only at hrs HE
          obtain ⟨y, hy⟩ : ∃ y, y = x % 256 := ⟨_, rfl⟩
          rw [← hy] at hrs HE
          obtain ⟨q1, q2⟩ := num_back (n := 1) (x := y) R' (by omega)
          have RD : ∀ X0 : World, X0.heap[g]? = some (rdr t K 0 ⟨#[]⟩) → Calls Try.prog 10 #[.pointer (some ⟨g, 0, none⟩), .string ⟨#[]⟩] X0 fun e w' => e = .returned (.int .u8 (y : Int)) ∧ w'.heap[g]? = some (rdr t (K + (fix y 1).length) 0 ⟨#[]⟩) ∧ But g X0 w' := fun X0 hX => by
            have := rU8_any g K t ⟨#[]⟩ ⟨#[]⟩ X0 hX hKt hts
            rw [hrs, q1, q2] at this
            rw [fix_length]
            exact this
          have ey : (x : Int) % 256 = (y : Int) := by omega
          have eyt : (x : Int).tmod 256 = (y : Int) := by rw [Int.tmod_eq_emod_of_nonneg (by omega)]; exact ey
          have eyw : IntKind.u64.wrap (y : Int) = (y : Int) := by rw [IntKind.wrap_u64]; omega
          clear hy
          clear q1 q2
          obtain ⟨X, hX⟩ : ∃ X, wr.alloc (.cells #[.int .i64 0, .int .u64 (x : Int), .string s, .int .i64 width, .slice la ln lc, .slice ba bn bc] 32) = X := ⟨_, rfl⟩
          rw [hX] at HE HBX HX0 HXR
          have kk := hide1 (RD X.drew HXR.out)
          obtain ⟨b0, b1, b2, b3, b4, b5⟩ := box6 (i := ⟨0, x, s, width, la, ln, lc, ws, ba, bn, bc, bs⟩) HX0.out
          have HXX := hide1 hX
          clear hX RD f4 hrs
          go_upto_region 15 with (fail)
          rw [HXX.out]
          clear HXX
          go_region_with (go_at_call 10; refine kk.out.mono ?_; rintro e w4 ⟨rfl, hrow4, hbt4⟩; have hx4 := (hbt4.block wr.heap.size (lt_heap HX0.out) hgx).trans HX0.out; obtain ⟨d0, d1, d2, d3, d4, d5⟩ := box6 (i := ⟨0, x, s, width, la, ln, lc, ws, ba, bn, bc, bs⟩) hx4; clear hx4)
          all_goals
            have kE := hide1 (err_none g _ t ⟨#[]⟩ w4 hrow4)
            have HF := hide1 (HE.out w4 hrow4 (((But.refl g X).drew).trans hbt4))
            clear hrow4 hbt4 kk
            go_wp2_with (go_at_call 20; refine kE.out.mono ?_; rintro e w5 ⟨rfl, q5, rfl⟩)
            go_roundw
            case rel => exact ⟨k + 1, by omega, by go_num, HF.out.1, drewN_below HF.out.2 _⟩
            case measure => simp [intOf]; omega
        by_cases h1 : kind = 1
        · subst h1
          rw [itB1 rfl] at hrs HE
          dsimp only at hrs HE
          obtain ⟨y, hy⟩ : ∃ y, y = x % 4294967296 := ⟨_, rfl⟩
          rw [← hy] at hrs HE
          obtain ⟨q1, q2⟩ := num_back (n := 4) (x := y) R' (by omega)
          have RD : ∀ X0 : World, X0.heap[g]? = some (rdr t K 0 ⟨#[]⟩) → Calls Try.prog 11 #[.pointer (some ⟨g, 0, none⟩), .string ⟨#[]⟩] X0 fun e w' => e = .returned (.int .u32 (y : Int)) ∧ w'.heap[g]? = some (rdr t (K + (fix y 4).length) 0 ⟨#[]⟩) ∧ But g X0 w' := fun X0 hX => by
            have := rU32_any g K t ⟨#[]⟩ ⟨#[]⟩ X0 hX hKt hts
            rw [hrs, q1, q2] at this
            rw [fix_length]
            exact this
          have ey : (x : Int) % 4294967296 = (y : Int) := by omega
          have eyt : (x : Int).tmod 4294967296 = (y : Int) := by rw [Int.tmod_eq_emod_of_nonneg (by omega)]; exact ey
          have eyw : IntKind.u64.wrap (y : Int) = (y : Int) := by rw [IntKind.wrap_u64]; omega
          clear hy
          clear q1 q2
          obtain ⟨X, hX⟩ : ∃ X, wr.alloc (.cells #[.int .i64 1, .int .u64 (x : Int), .string s, .int .i64 width, .slice la ln lc, .slice ba bn bc] 32) = X := ⟨_, rfl⟩
          rw [hX] at HE HBX HX0 HXR
          have kk := hide1 (RD X.drew HXR.out)
          obtain ⟨b0, b1, b2, b3, b4, b5⟩ := box6 (i := ⟨1, x, s, width, la, ln, lc, ws, ba, bn, bc, bs⟩) HX0.out
          have HXX := hide1 hX
          clear hX RD f4 hrs
          go_upto_region 17 with (fail)
          rw [HXX.out]
          clear HXX
          go_region_with (go_at_call 11; refine kk.out.mono ?_; rintro e w4 ⟨rfl, hrow4, hbt4⟩; have hx4 := (hbt4.block wr.heap.size (lt_heap HX0.out) hgx).trans HX0.out; obtain ⟨d0, d1, d2, d3, d4, d5⟩ := box6 (i := ⟨1, x, s, width, la, ln, lc, ws, ba, bn, bc, bs⟩) hx4; clear hx4)
          all_goals
            have kE := hide1 (err_none g _ t ⟨#[]⟩ w4 hrow4)
            have HF := hide1 (HE.out w4 hrow4 (((But.refl g X).drew).trans hbt4))
            clear hrow4 hbt4 kk
            go_wp2_with (go_at_call 20; refine kE.out.mono ?_; rintro e w5 ⟨rfl, q5, rfl⟩)
            go_roundw
            case rel => exact ⟨k + 1, by omega, by go_num, HF.out.1, drewN_below HF.out.2 _⟩
            case measure => simp [intOf]; omega
        by_cases h2 : kind = 2
        · subst h2
          rw [itB2 rfl] at hrs HE
          dsimp only at hrs HE
          obtain ⟨q1, q2⟩ := num_back (n := 8) (x := x) R' (by omega)
          have RD : ∀ X0 : World, X0.heap[g]? = some (rdr t K 0 ⟨#[]⟩) → Calls Try.prog 12 #[.pointer (some ⟨g, 0, none⟩), .string ⟨#[]⟩] X0 fun e w' => e = .returned (.int .u64 (x : Int)) ∧ w'.heap[g]? = some (rdr t (K + (fix x 8).length) 0 ⟨#[]⟩) ∧ But g X0 w' := fun X0 hX => by
            have := rU64_any g K t ⟨#[]⟩ ⟨#[]⟩ X0 hX hKt hts
            rw [hrs, q1, q2] at this
            rw [fix_length]
            exact this
          clear q1 q2
          obtain ⟨X, hX⟩ : ∃ X, wr.alloc (.cells #[.int .i64 2, .int .u64 (x : Int), .string s, .int .i64 width, .slice la ln lc, .slice ba bn bc] 32) = X := ⟨_, rfl⟩
          rw [hX] at HE HBX HX0 HXR
          have kk := hide1 (RD X.drew HXR.out)
          obtain ⟨b0, b1, b2, b3, b4, b5⟩ := box6 (i := ⟨2, x, s, width, la, ln, lc, ws, ba, bn, bc, bs⟩) HX0.out
          have HXX := hide1 hX
          clear hX RD f4 hrs
          go_upto_region 19 with (fail)
          rw [HXX.out]
          clear HXX
          go_region_with (go_at_call 12; refine kk.out.mono ?_; rintro e w4 ⟨rfl, hrow4, hbt4⟩; have hx4 := (hbt4.block wr.heap.size (lt_heap HX0.out) hgx).trans HX0.out; obtain ⟨d0, d1, d2, d3, d4, d5⟩ := box6 (i := ⟨2, x, s, width, la, ln, lc, ws, ba, bn, bc, bs⟩) hx4; clear hx4)
          all_goals
            have kE := hide1 (err_none g _ t ⟨#[]⟩ w4 hrow4)
            have HF := hide1 (HE.out w4 hrow4 (((But.refl g X).drew).trans hbt4))
            clear hrow4 hbt4 kk
            go_wp2_with (go_at_call 20; refine kE.out.mono ?_; rintro e w5 ⟨rfl, q5, rfl⟩)
            go_roundw
            case rel => exact ⟨k + 1, by omega, by go_num, HF.out.1, drewN_below HF.out.2 _⟩
            case measure => simp [intOf]; omega
        by_cases h3 : kind = 3
        · subst h3
          rw [itB3 rfl] at hrs HE
          dsimp only at hrs HE
          obtain ⟨q1, q2⟩ := blob_back s R' f1
          have RD : ∀ X0 : World, X0.heap[g]? = some (rdr t K 0 ⟨#[]⟩) → Calls Try.prog 13 #[.pointer (some ⟨g, 0, none⟩), .string ⟨#[]⟩, .int .i64 2000] X0 fun e w' => e = .returned (.string s) ∧ w'.heap[g]? = some (rdr t (K + (fix s.size 4 ++ nums s).length) 0 ⟨#[]⟩) ∧ But g X0 w' := fun X0 hX => by
            have := rBlob_any0 g K t ⟨#[]⟩ ⟨#[]⟩ 2000 X0 hX hKt hts
            rw [hrs, q1, q2] at this
            rw [List.length_append, fix_length, nums_length]
            exact this
          clear q1 q2
          obtain ⟨X, hX⟩ : ∃ X, wr.alloc (.cells #[.int .i64 3, .int .u64 (x : Int), .string s, .int .i64 width, .slice la ln lc, .slice ba bn bc] 32) = X := ⟨_, rfl⟩
          rw [hX] at HE HBX HX0 HXR
          have kk := hide1 (RD X.drew HXR.out)
          obtain ⟨b0, b1, b2, b3, b4, b5⟩ := box6 (i := ⟨3, x, s, width, la, ln, lc, ws, ba, bn, bc, bs⟩) HX0.out
          have HXX := hide1 hX
          clear hX RD f4 hrs
          go_upto_region 21 with (fail)
          rw [HXX.out]
          clear HXX
          go_region_with (go_at_call 13; refine kk.out.mono ?_; rintro e w4 ⟨rfl, hrow4, hbt4⟩; have hx4 := (hbt4.block wr.heap.size (lt_heap HX0.out) hgx).trans HX0.out; obtain ⟨d0, d1, d2, d3, d4, d5⟩ := box6 (i := ⟨3, x, s, width, la, ln, lc, ws, ba, bn, bc, bs⟩) hx4; clear hx4)
          all_goals
            have kE := hide1 (err_none g _ t ⟨#[]⟩ w4 hrow4)
            have HF := hide1 (HE.out w4 hrow4 (((But.refl g X).drew).trans hbt4))
            clear hrow4 hbt4 kk
            go_wp2_with (go_at_call 20; refine kE.out.mono ?_; rintro e w5 ⟨rfl, q5, rfl⟩)
            go_roundw
            case rel => exact ⟨k + 1, by omega, by go_num, HF.out.1, drewN_below HF.out.2 _⟩
            case measure => simp [intOf]; omega
        by_cases h4 : kind = 4
        · subst h4
          rw [itB4 rfl] at hrs HE
          dsimp only at hrs HE
          obtain ⟨q1, q2, q3⟩ := raw_back s R' f1
          have RD : ∀ X0 : World, X0.heap[g]? = some (rdr t K 0 ⟨#[]⟩) → Calls Try.prog 14 #[.pointer (some ⟨g, 0, none⟩), .string ⟨#[]⟩, .int .i64 (s.size : Int)] X0 fun e w' => e = .returned (.string s) ∧ w'.heap[g]? = some (rdr t (K + (nums s).length) 0 ⟨#[]⟩) ∧ But g X0 w' := fun X0 hX => by
            have := rRaw_any g K t ⟨#[]⟩ ⟨#[]⟩ (s.size : Int) X0 hX hKt hts
            rw [hrs, q1, q2, q3] at this
            rw [nums_length]
            exact this
          clear q1 q2 q3
          obtain ⟨X, hX⟩ : ∃ X, wr.alloc (.cells #[.int .i64 4, .int .u64 (x : Int), .string s, .int .i64 width, .slice la ln lc, .slice ba bn bc] 32) = X := ⟨_, rfl⟩
          rw [hX] at HE HBX HX0 HXR
          have kk := hide1 (RD X.drew HXR.out)
          obtain ⟨b0, b1, b2, b3, b4, b5⟩ := box6 (i := ⟨4, x, s, width, la, ln, lc, ws, ba, bn, bc, bs⟩) HX0.out
          have HXX := hide1 hX
          clear hX RD f4 hrs
          go_upto_region 23 with (fail)
          rw [HXX.out]
          clear HXX
          go_region_with (go_at_call 14; refine kk.out.mono ?_; rintro e w4 ⟨rfl, hrow4, hbt4⟩; have hx4 := (hbt4.block wr.heap.size (lt_heap HX0.out) hgx).trans HX0.out; obtain ⟨d0, d1, d2, d3, d4, d5⟩ := box6 (i := ⟨4, x, s, width, la, ln, lc, ws, ba, bn, bc, bs⟩) hx4; clear hx4)
          all_goals
            have kE := hide1 (err_none g _ t ⟨#[]⟩ w4 hrow4)
            have HF := hide1 (HE.out w4 hrow4 (((But.refl g X).drew).trans hbt4))
            clear hrow4 hbt4 kk
            go_wp2_with (go_at_call 20; refine kE.out.mono ?_; rintro e w5 ⟨rfl, q5, rfl⟩)
            go_roundw
            case rel => exact ⟨k + 1, by omega, by go_num, HF.out.1, drewN_below HF.out.2 _⟩
            case measure => simp [intOf]; omega
        by_cases h5 : kind = 5
        · subst h5
          obtain ⟨q1, q2⟩ := f4 rfl
          obtain ⟨wd, rfl⟩ : ∃ wd : Nat, width = wd := ⟨width.toNat, by omega⟩
          rw [itB5 rfl] at hrs HE
          dsimp only at hrs HE
          rw [Int.toNat_natCast] at hrs HE
          obtain ⟨X, hX⟩ : ∃ X, wr.alloc (.cells #[.int .i64 5, .int .u64 (x : Int), .string s, .int .i64 (wd : Int), .slice la ln lc, .slice ba bn bc] 32) = X := ⟨_, rfl⟩
          rw [hX] at HE HBX HX0 HXR
          have hw1 : 1 ≤ wd := by omega
          have hw2 : wd ≤ 64 := by omega
          have hx5 := hx64.2
          have HX5 := hide1 hx5
          have HWS := hide1 hws
          have RD : ∀ X0 : World, X0.heap[g]? = some (rdr t K 0 ⟨#[]⟩) → FitsW wd ws → Calls Try.prog 16 #[.pointer (some ⟨g, 0, none⟩), .string ⟨#[]⟩, .int .i64 (wd : Int), .int .i64 2000] X0 fun e w' => ∃ (a : Option Addr) (c : Nat), e = .returned (.slice a ln c) ∧ Nl w' ln a ws ∧ w'.heap[g]? = some (rdr t (K + (fix ln 4 ++ wordsB ((wd + 7) / 8) ws).length) 0 ⟨#[]⟩) ∧ But g X0 w' := fun X0 hX0 hF => by
            obtain ⟨r1, r2, r3⟩ := words_back R' hw1 hw2 HWS.out f2 hF
            have := rWords_any0 g K t ⟨#[]⟩ ⟨#[]⟩ (wd : Int) 2000 X0 hX0 hKt hts
            refine this.mono ?_
            rintro e w' ⟨a, m, c, rfl, h1, h2, h3⟩
            rw [hrs, r2] at h1
            rw [hrs, r1, r3, rdN_ok] at h2
            obtain rfl : m = ln := by rw [← h1.len, HWS.out]
            rw [List.length_append, fix_length, wordsB_length, HWS.out]
            exact ⟨a, c, rfl, h1, h2, h3⟩
          have HRD := hide1 RD
          obtain ⟨b0, b1, b2, b3, b4, b5⟩ := box6 (i := ⟨5, x, s, (wd : Int), la, ln, lc, ws, ba, bn, bc, bs⟩) HX0.out
          have HXX := hide1 hX
          have hlnI : (ln : Int) ≤ 2000 := by omega
          clear hX RD f4 hrs q1 q2 hx64 hx5
          go_wp2
          rw [HXX.out]
          clear HXX
          generalize wr.heap.size = bx at *
          obtain ⟨wm, hwm⟩ : ∃ wm, wd = wm + 1 := ⟨wd - 1, by omega⟩
          have ewm : (wd : Int) - 1 = (wm : Int) := by omega
          have HWM := hide1 hwm
          have hwm64 : (wm : Int) < 64 := by omega
          have ewk : IntKind.u64.wrap (wm : Int) = (wm : Int) := by rw [IntKind.wrap_u64]; omega
          have hwdI : (wd : Int) ≤ 64 := by omega
          have mx := mixed
          clear hwm
          go_loopw [10] (fun jv wj => ∃ j q : Nat, j ≤ ln ∧ jv = .int .i64 j ∧ wj = X.drewN q ∧ ∀ m y, m < j → ws[m]? = some y → y < 2 ^ wd) (fun jv _ => ln - (intOf jv).toNat)
          case atStart => exact ⟨0, 0, Nat.zero_le _, rfl, rfl, fun m y hm => by omega⟩
          case round =>
            obtain ⟨j, q, hj, rfl, hwj, hall⟩ := hrel
            have HALL := hide1 hall
            obtain ⟨Y, hY⟩ : ∃ Y, X.drewN q = Y := ⟨_, rfl⟩
            rw [hY] at hwj
            have e3 : Y.cell? ⟨bx, 3, none⟩ = some (.int .i64 (wd : Int)) := by rw [← hY]; exact b3
            have e4 : Y.cell? ⟨bx, 4, none⟩ = some (.slice la ln lc) := by rw [← hY]; exact b4
            have HY := hide1 hY
            have HYR : Hid (Y.heap[g]? = some (rdr t K 0 ⟨#[]⟩)) := by rw [← hY]; exact HXR.out
            have HY0 : Hid (Y.heap[bx]? = X.heap[bx]?) := by rw [← hY]; rfl
            have HYB : Hid (Below W.heap.size W Y) := by rw [← hY]; exact drewN_below HBX.out q
            have HYX : Hid (But g X Y) := by rw [← hY]; exact (But.refl g X).drewN q
            clear hall hY b0 b1 b2 b3 b4 b5
            cases hwj
            by_cases hjl : j < ln
            · obtain ⟨y, hy⟩ : ∃ y, ws[j]? = some y := ⟨_, List.getElem?_eq_getElem (by rw [HWS.out]; exact hjl)⟩
              obtain ⟨gl, ol, rfl, hcl⟩ := (HIW.out _ HYB.out).1.at' j y hy
              have hy64 := HX5.out y (List.mem_of_getElem? hy)
              have HNEXT : Hid (y < 2 ^ wd → ∀ m z, m < j + 1 → ws[m]? = some z → z < 2 ^ wd) := fun hlt m z hm hz => by
                by_cases hmj : m < j
                · exact HALL.out m z hmj hz
                · obtain rfl : m = j := by omega
                  rw [hy] at hz
                  obtain rfl := Option.some.inj hz
                  exact hlt
              obtain ⟨y2, hy2⟩ : ∃ y2, y / 2 = y2 := ⟨_, rfl⟩
              have ey2 : (y : Int) / 2 = (y2 : Int) := by omega
              have eyw : IntKind.u64.wrap (y2 : Int) = (y2 : Int) := by rw [IntKind.wrap_u64]; omega
              have HC : Hid (y < 2 ^ wd ↔ y2 < 2 ^ wm) := by
                show y < 2 ^ wd ↔ y2 < 2 ^ wm
                rw [HWM.out, Nat.pow_succ]; omega
              clear hy hy2 HALL
              by_cases hw64 : wd < 64
              · have hw64' : (wd : Int) < 64 := by omega
                by_cases hfit : y < 2 ^ wd
                · have hs0 := shr_zero (HC.out.1 hfit)
                  have HF := hide1 hfit
                  clear hfit
                  go_wp2
                  go_quiet (fail)
                  go_wp2
                  go_roundw
                  case rel => exact ⟨j + 1, q + nq, by omega, by go_num, by rw [← HY.out]; exact World.drewN_drewN _ _ _, HNEXT.out HF.out⟩
                  case measure => simp [intOf]; omega
                · have hs0 := shr_some (fun h => hfit (HC.out.2 h))
                  clear hfit
                  go_wp2
                  go_quiet (fail)
                  go_wp2_with (go_at_call 6; refine (kA _).out.mono ?_; rintro e w6 ⟨rfl, hb6⟩)
                  go_ret
                  exact ⟨rfl, (drewN_below HYB.out _).trans (hb6.mono HYB.out.size)⟩
              · have hw64' : decide ((wd : Int) < 64) = false := by rw [decide_eq_false_iff_not]; omega
                have hfit : y < 2 ^ wd := by
                  have : wd = 64 := by omega
                  rw [this]; exact hy64
                have HF := hide1 hfit
                clear hfit
                go_wp2
                go_quiet (fail)
                go_wp2
                go_roundw
                case rel => exact ⟨j + 1, q + nq, by omega, by go_num, by rw [← HY.out]; exact World.drewN_drewN _ _ _, HNEXT.out HF.out⟩
                case measure => simp [intOf]; omega
            · obtain rfl : j = ln := by omega
              have hF : FitsW wd ws := fun y hy => by
                obtain ⟨m, hm⟩ := List.mem_iff_getElem?.1 hy
                exact HALL.out m y (by rw [← HWS.out]; exact (List.getElem?_eq_some_iff.1 hm).1) hm
              have kk := hide1 (HRD.out wr.drew HYR.out hF)
              have HXI := hide1 (HY0.out.trans HX0.out)
              clear hF HALL HRD
              go_upto_region 30 with (fail)
              go_region_with (first | (go_at_call 16; refine kk.out.mono ?_; rintro e w4 ⟨a4, c4, rfl, hn4, hrow4, hbt4⟩; have hx4 := (hbt4.block bx (lt_heap HXI.out) hgx).trans HXI.out; obtain ⟨d0, d1, d2, d3, d4, d5⟩ := box6 (i := ⟨5, x, s, (wd : Int), la, j, lc, ws, ba, bn, bc, bs⟩) hx4; have hB4 := hbt4.below (HYB.out.drew) HWG.out HYB.out.size; have kN := hide1 (nums_any w4 j c4 lc a4 la ws hn4 (HIW.out w4 hB4).1 (by omega)); clear hx4 hn4 hB4) | (go_at_call 15; refine kN.out.mono ?_; rintro e w5 ⟨rfl, q5, rfl⟩))
              all_goals
                have hrow5 : (w4.drewN q5).heap[g]? = some (rdr t (K + (fix j 4 ++ wordsB ((wd + 7) / 8) ws).length) 0 ⟨#[]⟩) := hrow4
                have kE := hide1 (err_none g _ t ⟨#[]⟩ (w4.drewN q5) hrow5)
                have HF := hide1 (HE.out (w4.drewN q5) hrow5 ((HYX.out.drew.trans hbt4).drewN q5))
                clear hrow4 hrow5 hbt4 kk kN
                go_wp2_with (go_at_call 20; refine kE.out.mono ?_; rintro e w6 ⟨rfl, q6, rfl⟩)
                go_roundw
                case rel => exact ⟨k + 1, by omega, by go_num, HF.out.1, ⟨HF.out.2.1, HF.out.2.2, HF.out.2.3, HF.out.2.4, HF.out.2.5⟩⟩
                case measure => simp [intOf]; omega
        by_cases h6 : kind = 6
        · subst h6
          rw [itB6 rfl] at hrs HE
          dsimp only at hrs HE
          obtain ⟨X, hX⟩ : ∃ X, wr.alloc (.cells #[.int .i64 6, .int .u64 (x : Int), .string s, .int .i64 width, .slice la ln lc, .slice ba bn bc] 32) = X := ⟨_, rfl⟩
          rw [hX] at HE HBX HX0 HXR
          have RD : Calls Try.prog 18 #[.pointer (some ⟨g, 0, none⟩), .string ⟨#[]⟩, .int .i64 2000] X.drew fun e w' => ∃ (a : Option Addr), e = .returned (.agg #[.int .i64 (bn : Int), .slice a (need bn 64) (need bn 64)]) ∧ Vc X.heap.size w' bn a bs ∧ w'.heap[g]? = some (rdr t (K + (fix bn 4 ++ chunks 8 bs).length) 0 ⟨#[]⟩) ∧ But g X.drew w' := by
            obtain ⟨r1, r2, r3⟩ := bits_back R' hbs f3
            have := rBits_any0 g K t ⟨#[]⟩ ⟨#[]⟩ 2000 X.drew HXR.out hKt hts
            refine this.mono ?_
            rintro e w' ⟨n9, a9, rfl, h0, h1, h2, h3⟩
            rw [hrs, r2] at h1
            rw [hrs, r1, r3, rdN_ok] at h2
            obtain rfl : n9 = bn := by rw [← h1.len, hbs]
            rw [List.length_append, fix_length, chunks8_length, hbs]
            exact ⟨a9, rfl, h1, h2, h3⟩
          have kk := hide1 RD
          obtain ⟨b0, b1, b2, b3, b4, b5⟩ := box6 (i := ⟨6, x, s, width, la, ln, lc, ws, ba, bn, bc, bs⟩) HX0.out
          have HXX := hide1 hX
          clear hX RD f4 hrs
          go_upto_region 32 with (fail)
          rw [HXX.out]
          clear HXX
          go_region_with (first | (go_at_call 18; refine kk.out.mono ?_; rintro e w4 ⟨a4, rfl, hv4, hrow4, hbt4⟩; have hx4 := (hbt4.block wr.heap.size (lt_heap HX0.out) hgx).trans HX0.out; obtain ⟨d0, d1, d2, d3, d4, d5⟩ := box6 (i := ⟨6, x, s, width, la, ln, lc, ws, ba, bn, bc, bs⟩) hx4; have HX4 := hide1 hx4; have hB4 := hide1 (hbt4.below (HBX.out.drew) HWG.out HBX.out.size); have kB := hide1 (bools_any _ w4 bn a4 bs hv4 (by omega)); clear hx4 hv4) | (go_at_call 19; refine kB.out.mono ?_; rintro e w5 ⟨a5, rfl, hl5, hb5⟩; have hx5 := (hb5.block _ (lt_heap HX4.out)).trans HX4.out; obtain ⟨d0, d1, d2, d3, d4, d5⟩ := box6 (i := ⟨6, x, s, width, la, ln, lc, ws, ba, bn, bc, bs⟩) hx5; have hB5 := hide1 (hB4.out.trans (hb5.mono hB4.out.size)); have kS := hide1 (same_any w5 bn bn bn bc a5 ba bs bs hl5 (HIW.out w5 hB5.out).2 (by omega) (by omega)); have hrow5 := (hb5.block _ (lt_heap hrow4)).trans hrow4; have hbt5 := hide1 (hbt4.trans (But.of_below (b := g) hb5)); have HROW5 := hide1 hrow5; clear hx5 hl5 hb5 hrow5) | (go_at_call 17; refine kS.out.mono ?_; rintro e w6 ⟨rfl, q6, rfl⟩))
          all_goals
            have kE := hide1 (err_none g _ t ⟨#[]⟩ (w5.drewN q6) HROW5.out)
            have HF := hide1 (HE.out (w5.drewN q6) HROW5.out ((((But.refl g X).drew).trans hbt5.out).drewN q6))
            clear hrow4 hbt4 kk kS kB
            go_wp2_with (go_at_call 20; refine kE.out.mono ?_; rintro e w7 ⟨rfl, q7, rfl⟩)
            go_roundw
            case rel => exact ⟨k + 1, by omega, by go_num, HF.out.1, ⟨HF.out.2.1, HF.out.2.2, HF.out.2.3, HF.out.2.4, HF.out.2.5⟩⟩
            case measure => simp [intOf]; omega
        rw [itB7 h0 h1 h2 h3 h4 h5 h6] at HE
        have kE := hide1 (err_none g _ t ⟨#[]⟩ _ HXR.out)
        have HF := hide1 (HE.out _ HXR.out (But.refl g _))
        have e0 : (kind == 0) = false := by rw [beq_eq_false_iff_ne]; exact h0
        have e1 : (kind == 1) = false := by rw [beq_eq_false_iff_ne]; exact h1
        have e2 : (kind == 2) = false := by rw [beq_eq_false_iff_ne]; exact h2
        have e3 : (kind == 3) = false := by rw [beq_eq_false_iff_ne]; exact h3
        have e4 : (kind == 4) = false := by rw [beq_eq_false_iff_ne]; exact h4
        have e5 : (kind == 5) = false := by rw [beq_eq_false_iff_ne]; exact h5
        have e6 : (kind == 6) = false := by rw [beq_eq_false_iff_ne]; exact h6
        clear f4 h0 h1 h2 h3 h4 h5 h6
        go_wp2_with (go_at_call 20; refine kE.out.mono ?_; rintro e w7 ⟨rfl, q7, rfl⟩)
        go_roundw
        case rel => exact ⟨k + 1, by omega, by go_num, HF.out.1, drewN_below HF.out.2 _⟩
        case measure => simp [intOf]; omega
      · obtain rfl : k = n := by omega
        rw [List.take_of_length_le (by rw [HI.out.len]; omega)] at hR
        have hts : t.size ≤ 281474976710656 := by have := hLz.out; have := HLEN.out; omega
        have kAt := hide1 (at_any g _ t ⟨#[]⟩ 0 wr hR)
        have HB := hide1 hB
        obtain ⟨z, hz⟩ : ∃ z, (itsB l).length = z := ⟨_, rfl⟩
        have hTW := HTW.out
        have hLE := HLEN.out
        rw [hz] at hR kAt hTW hLE
        have hTWi : ((z : Int) == (tw.size : Int)) = true := by rw [hTW]; simp
        by_cases hrz : rest.size = 0
        · have hre : rest = ⟨#[]⟩ := by
            apply ByteArray.ext
            exact Array.eq_empty_of_size_eq_zero hrz
          have kE := hide1 (end_all g z t ⟨#[]⟩ wr hR (by omega))
          subst hre
          clear hR hB hLE hrz hr2 hr2' hr3 HT HTT HLEN HTW
          rw [← hTW] at kAt kE
          go_wp2_with fail
          refine kAt.out.mono ?_
          rintro e w4 ⟨rfl, hw4⟩
          cases hw4
          go_wp2_with fail
          refine kE.out.mono ?_
          rintro e w5 ⟨rfl, _, hbt⟩
          have HB5 := hide1 (hbt.below HB.out HWG.out HB.out.size)
          clear kAt kE hbt
          go_wp2_with (go_at_call 6; refine (kA _).out.mono ?_; rintro e w6 ⟨rfl, hb6⟩)
          go_ret
          exact ⟨rfl, HB5.out.trans (hb6.mono HB5.out.size)⟩
        · have kE := hide1 (end_tail g z t ⟨#[]⟩ wr hR (by omega))
          have hne := ne_empty hrz
          clear hR hB hLE hrz hr2 hr2' hr3 HT HTT HLEN HTW
          rw [← hTW] at kAt kE
          go_wp2_with fail
          refine kAt.out.mono ?_
          rintro e w4 ⟨rfl, hw4⟩
          cases hw4
          go_wp2_with fail
          refine kE.out.mono ?_
          rintro e w5 ⟨p, rfl, _, _, hbt⟩
          have HB5 := hide1 (hbt.below HB.out HWG.out HB.out.size)
          clear kAt kE hbt
          go_wp2_with (go_at_call 6; refine (kA _).out.mono ?_; rintro e w6 ⟨rfl, hb6⟩)
          go_ret
          exact ⟨rfl, HB5.out.trans (hb6.mono HB5.out.size)⟩
end Go.Proofs.Ytmmhfipdolbinaa
