/- The document's bytes of fields, all of them. -/
import Derived.Test.YtmmhfipdolbinaaWh
import Derived.Test.YtmmhfipdolbinaaT
namespace Go.Proofs.Ytmmhfipdolbinaa
open Go.RowKit
set_option maxRecDepth 100000
attribute [local go_sem] not_any mf_any

theorem fixed_any (n x : Nat) (w : World) (hn : n ≤ 8) (hx : x < 18446744073709551616) :
    Calls Try.prog 32 #[.int .u64 (x : Int), .int .i64 (n : Int)] w fun e w' => e = .returned (.string (txt (fix x n))) ∧ Below w.heap.size w w' := by
  induction n generalizing x w with
  | zero => exact fixed_zero x w
  | succ n ih => exact fixed_step n x w hn hx (fun x w hx => ih x w (by omega) hx)

theorem rU32_any (n : Nat) (w : World) (hn : n ≤ 1000000000) : Calls Try.prog 64 #[.int .i64 (n : Int)] w fun e w' => e = .returned (.string (txt (fix n 4))) ∧ Below w.heap.size w w' := by
  have k := fun w => hide1 (fixed_any 4 n w (by omega) (by omega))
  have e1 : IntKind.u64.wrap (n : Int) = (n : Int) := by rw [IntKind.wrap_u64]; omega
  generalize txt (fix n 4) = t at *
  go_enter Try.func64, Try.ntmps64
  go_wp2_with (go_at_call 32; refine (k _).out.mono ?_; rintro e w' ⟨rfl, hb⟩)
  go_ret
  exact ⟨rfl, hb⟩

theorem rBlob_any (s : ByteArray) (w : World) (hs : s.size ≤ 1000000000) : Calls Try.prog 33 #[.string s] w fun e w' => e = .returned (.string (txt (fix s.size 4 ++ nums s))) ∧ Below w.heap.size w w' := by
  have k := fun w => hide1 (rU32_any s.size w hs)
  have HT : Shy (txt (fix s.size 4) ++ s = txt (fix s.size 4 ++ nums s)) := ⟨by rw [← txt_append (fix_lt _ _) (nums_all _), txt_nums]⟩
  have hz : (txt (fix s.size 4)).size = 4 := by rw [txt_size (fix_lt _ _), fix_length]
  have hss : ¬ (9223372036854775807 < (txt (fix s.size 4)).size + s.size) := by omega
  clear hz
  generalize txt (fix s.size 4) = t at *
  generalize txt (fix s.size 4 ++ nums s) = t2 at *
  go_enter Try.func33, Try.ntmps33
  go_wp2_with (go_at_call 64; refine (k _).out.mono ?_; rintro e w' ⟨rfl, hb⟩)
  go_ret
  exact ⟨by rw [← HT.out]; rfl, hb⟩

set_option maxHeartbeats 1000000 in
theorem rWords_any (w : World) (wd m c : Nat) (a : Option Addr) (ws : List Nat) (h1 : 1 ≤ wd) (h2 : wd ≤ 64) (hm : m ≤ 100000) (hl : Nl w m a ws) (hx : ∀ x ∈ ws, x < 18446744073709551616) :
    Calls Try.prog 34 #[.int .i64 (wd : Int), .slice a m c] w fun e w' => e = .returned (.string (txt (fix m 4 ++ wordsB ((wd + 7) / 8) ws))) ∧ Below w.heap.size w w' := by
  obtain ⟨n, hn⟩ : ∃ n, n = (wd + 7) / 8 := ⟨_, rfl⟩
  have en : ((wd : Int) + 7) / 8 = (n : Int) := by omega
  have hn8 : n ≤ 8 := by omega
  have k := fun w => hide1 (rU32_any m w (by omega))
  have HL := hide1 hl
  have HX := hide1 hx
  rw [← hn]
  clear hl hx hn
  go_enter Try.func34, Try.ntmps34
  go_wp2_with fail
  refine (k _).out.mono ?_
  rintro e w1 ⟨rfl, hb⟩
  have HB := hide1 hb
  clear k hb
  go_wp2
  go_loopw [5, 6] (fun sv i wr => ∃ k : Nat, k ≤ m ∧ i = .int .i64 k ∧ sv = .string (txt (fix m 4 ++ wordsB n (ws.take k))) ∧ Below w.heap.size w wr) (fun _ i _ => m - (intOf i).toNat)
  case atStart => exact ⟨0, Nat.zero_le _, rfl, by simp [wordsB], HB.out⟩
  case round =>
    obtain ⟨k, hk, rfl, rfl, hB⟩ := hrel
    by_cases hlt : k < m
    · obtain ⟨x, hxk⟩ : ∃ x, ws[k]? = some x := ⟨_, List.getElem?_eq_getElem (by rw [HL.out.len]; exact hlt)⟩
      obtain ⟨gl, o, rfl, hcl⟩ := (HL.out.below hB (Nat.le_refl _)).at' k x hxk
      have kF := fun w => hide1 (fixed_any n x w hn8 (HX.out x (List.mem_of_getElem? hxk)))
      have hA : Lt 256 (fix m 4 ++ wordsB n (ws.take k)) := (fix_lt _ _).append (wordsB_lt _ _)
      have HT : Shy (txt (fix m 4 ++ wordsB n (ws.take k)) ++ txt (fix x n) = txt (fix m 4 ++ wordsB n (ws.take (k + 1)))) := ⟨by
        rw [txt_append hA (fix_lt _ _), List.take_add_one, hxk]
        show txt _ = txt (fix m 4 ++ wordsB n (ws.take k ++ [x]))
        rw [wordsB_snoc, List.append_assoc]⟩
      have hss : ¬ (9223372036854775807 < (txt (fix m 4 ++ wordsB n (ws.take k))).size + (txt (fix x n)).size) := by
        rw [txt_size hA, txt_size (fix_lt _ _), List.length_append, fix_length, fix_length, wordsB_length, List.length_take, HL.out.len]
        have := Nat.mul_le_mul (show min k m ≤ 100000 by omega) hn8
        omega
      have HB := hide1 hB
      clear hxk hA hB
      generalize txt (fix x n) = t1 at *
      generalize txt (fix m 4 ++ wordsB n (ws.take k)) = t2 at *
      go_wp2_with (go_at_call 32; refine (kF _).out.mono ?_; rintro e w2 ⟨rfl, hb2⟩)
      go_roundw
      case rel => exact ⟨k + 1, by omega, by go_num, by rw [← HT.out], HB.out.trans (hb2.mono HB.out.size)⟩
      case measure => simp [intOf]; omega
    · obtain rfl : k = m := by omega
      rw [List.take_of_length_le (by rw [HL.out.len]; omega)]
      go_wp2
      go_ret
      exact ⟨rfl, hB⟩

theorem rBits_any (w : World) (n c : Nat) (a : Option Addr) (l : List Bool) (hl : Bl w n a l) (hn : n ≤ 4194304) :
    Calls Try.prog 35 #[.slice a n c] w fun e w' => e = .returned (.string (txt (fix n 4 ++ chunks 8 l))) ∧ Below w.heap.size w w' := by
  have k := fun w => hide1 (rU32_any n w (by omega))
  have k2 := fun w h => hide1 (rbytes_any w n c a l h hn)
  have HL := hide1 hl
  have HT : Shy (txt (fix n 4) ++ txt (chunks 8 l) = txt (fix n 4 ++ chunks 8 l)) := ⟨txt_append (fix_lt _ _) (chunks8_lt _)⟩
  have hss : ¬ (9223372036854775807 < (txt (fix n 4)).size + (txt (chunks 8 l)).size) := by
    rw [txt_size (fix_lt _ _), txt_size (chunks8_lt _), fix_length, chunks8_length, hl.len, need8]; omega
  clear hl
  generalize txt (fix n 4) = t at *
  generalize txt (chunks 8 l) = t1 at *
  generalize txt (fix n 4 ++ chunks 8 l) = t2 at *
  go_enter Try.func35, Try.ntmps35
  go_wp2_with fail
  refine (k _).out.mono ?_
  rintro e w1 ⟨rfl, hb⟩
  have k3 := hide1 (k2 w1 (HL.out.below hb (Nat.le_refl _))).out
  have HB := hide1 hb
  clear k k2 hb
  go_wp2_with (go_at_call 65; refine k3.out.mono ?_; rintro e w2 ⟨rfl, hb2⟩)
  go_ret
  exact ⟨by rw [← HT.out]; rfl, HB.out.trans (hb2.mono HB.out.size)⟩

set_option maxHeartbeats 4000000 in
theorem wanted_any (w : World) (n c : Nat) (a : Option Addr) (l : List It) (hl : Its w n a l) (hf : ∀ i ∈ l, Fit i) (hn : n ≤ 40) :
    Calls Try.prog 8 #[.slice a n c] w fun e w' => e = .returned (.string (txt (itsB l))) ∧ Below w.heap.size w w' := by
  have HI := hide1 hl
  have HF := hide1 hf
  have HT := hide1 (fun k => take_len (k := k) hl hf hn)
  have hnI : (n : Int) ≤ 40 := by omega
  clear hl hf
  go_enter Try.func8, Try.ntmps8
  go_wp2
  go_loopw [3, 4] (fun sv i wr => ∃ k : Nat, k ≤ n ∧ i = .int .i64 k ∧ sv = .string (txt (itsB (l.take k))) ∧ Below w.heap.size w wr) (fun _ i _ => n - (intOf i).toNat)
  case atStart => exact ⟨0, Nat.zero_le _, rfl, rfl, Below.refl _ _⟩
  case round =>
    obtain ⟨k, hk, rfl, rfl, hB⟩ := hrel
    by_cases hlt : k < n
    · obtain ⟨i, hi⟩ : ∃ i, l[k]? = some i := ⟨_, List.getElem?_eq_getElem (by rw [HI.out.len]; exact hlt)⟩
      have HX : Shy (itsB (l.take (k + 1)) = itsB (l.take k) ++ itB i) := ⟨by rw [List.take_add_one, hi]; exact itsB_snoc _ _⟩
      obtain ⟨⟨g, o, rfl, hat⟩, hnl, hbl, hx64⟩ := (HI.out.next hB).at' k i hi
      obtain ⟨hx64, hsmall⟩ := hx64
      have HSM := hide1 hsmall
      clear hsmall
      have hfi := HF.out i (List.mem_of_getElem? hi)
      have hlen := HT.out k
      have hlen2 := itB_length hfi hnl.len hbl.len
      have HTT : Shy (txt (itsB (l.take k)) ++ txt (itB i) = txt (itsB (l.take (k + 1)))) := ⟨by rw [txt_append (itsB_lt _) (itB_lt _), HX.out]⟩
      have hss : ¬ (9223372036854775807 < (txt (itsB (l.take k))).size + (txt (itB i)).size) := by rw [txt_size (itsB_lt _), txt_size (itB_lt _)]; omega
      obtain ⟨f1, f2, f3, f4⟩ := hfi
      obtain ⟨c0, c1, c2, c3, c4, c5⟩ := hat
      have HE : Hid (∀ w2 : World, Below (wr.alloc (.cells #[.int .i64 i.kind, .int .u64 (i.x : Int), .string i.s, .int .i64 i.width, .slice i.la i.ln i.lc, .slice i.ba i.bn i.bc] 32)).heap.size (wr.alloc (.cells #[.int .i64 i.kind, .int .u64 (i.x : Int), .string i.s, .int .i64 i.width, .slice i.la i.ln i.lc, .slice i.ba i.bn i.bc] 32)) w2 → Below w.heap.size w w2) := fun w2 h2 =>
        (hB.alloc hB.size _).trans (h2.mono (by have := hB.size; simp; omega))
      have HB := hide1 hB
      have HNL := hide1 hnl
      have HBL := hide1 hbl
      clear hi hB hnl hbl HX hlen hlen2
      generalize txt (itsB (l.take k)) = tA at *
      obtain ⟨kind, x, s, width, la, ln, lc, ws, ba, bn, bc, bs⟩ := i
      dsimp only at *
      by_cases h0 : kind = 0
      · subst h0
        obtain ⟨y, hy⟩ : ∃ y, y = x % 256 := ⟨_, rfl⟩
        have ey : (x : Int) % 256 = (y : Int) := by omega
        have eyt : (x : Int).tmod 256 = (y : Int) := by rw [Int.tmod_eq_emod_of_nonneg (by omega)]; exact ey
        have kk := fun w => hide1 (fixed_any 1 y w (by omega) (by omega))
        rw [itB0 rfl] at HTT hss
        dsimp only at HTT hss
        rw [← hy] at HTT hss
        generalize txt (fix y 1) = tB at *
        clear hy f4
        go_wp2_with (go_at_call 32; refine (kk _).out.mono ?_; rintro e w2 ⟨rfl, hb2⟩)
        go_roundw
        case rel => exact ⟨k + 1, by omega, by go_num, by rw [← HTT.out], HE.out _ hb2⟩
        case measure => simp [intOf]; omega
      by_cases h1 : kind = 1
      · subst h1
        obtain ⟨y, hy⟩ : ∃ y, y = x % 4294967296 := ⟨_, rfl⟩
        have ey : (x : Int) % 4294967296 = (y : Int) := by omega
        have eyt : (x : Int).tmod 4294967296 = (y : Int) := by rw [Int.tmod_eq_emod_of_nonneg (by omega)]; exact ey
        have kk := fun w => hide1 (fixed_any 4 y w (by omega) (by omega))
        rw [itB1 rfl] at HTT hss
        dsimp only at HTT hss
        rw [← hy] at HTT hss
        generalize txt (fix y 4) = tB at *
        clear hy f4
        go_wp2_with (go_at_call 32; refine (kk _).out.mono ?_; rintro e w2 ⟨rfl, hb2⟩)
        go_roundw
        case rel => exact ⟨k + 1, by omega, by go_num, by rw [← HTT.out], HE.out _ hb2⟩
        case measure => simp [intOf]; omega
      by_cases h2 : kind = 2
      · subst h2
        have kk := fun w => hide1 (fixed_any 8 x w (by omega) hx64)
        rw [itB2 rfl] at HTT hss
        dsimp only at HTT hss
        generalize txt (fix x 8) = tB at *
        clear f4
        go_wp2_with (go_at_call 32; refine (kk _).out.mono ?_; rintro e w2 ⟨rfl, hb2⟩)
        go_roundw
        case rel => exact ⟨k + 1, by omega, by go_num, by rw [← HTT.out], HE.out _ hb2⟩
        case measure => simp [intOf]; omega
      by_cases h3 : kind = 3
      · subst h3
        have kk := fun w => hide1 (rBlob_any s w (by omega))
        rw [itB3 rfl] at HTT hss
        dsimp only at HTT hss
        generalize txt (fix s.size 4 ++ nums s) = tB at *
        clear f4
        go_wp2_with (go_at_call 33; refine (kk _).out.mono ?_; rintro e w2 ⟨rfl, hb2⟩)
        go_roundw
        case rel => exact ⟨k + 1, by omega, by go_num, by rw [← HTT.out], HE.out _ hb2⟩
        case measure => simp [intOf]; omega
      by_cases h4 : kind = 4
      · subst h4
        rw [itB4 rfl] at HTT hss
        dsimp only at HTT hss
        rw [txt_nums] at HTT hss
        clear f4
        go_wp2
        go_roundw
        case rel => exact ⟨k + 1, by omega, by go_num, by rw [← HTT.out], HE.out _ (Below.refl _ _)⟩
        case measure => simp [intOf]; omega
      by_cases h5 : kind = 5
      · subst h5
        obtain ⟨q1, q2⟩ := f4 rfl
        obtain ⟨wd, rfl⟩ : ∃ wd : Nat, width = wd := ⟨width.toNat, by omega⟩
        rw [itB5 rfl] at HTT hss
        dsimp only at HTT hss
        rw [Int.toNat_natCast] at HTT hss
        have kk := fun o => hide1 (rWords_any (wr.alloc o) wd ln lc la ws (by omega) (by omega) (by omega) (HNL.out.below ((Below.refl _ _).alloc (Nat.le_refl _) o) (Nat.le_refl _)) HSM.out)
        generalize txt (fix ln 4 ++ wordsB ((wd + 7) / 8) ws) = tB at *
        clear f4 q1 q2
        go_wp2_with (go_at_call 34; refine (kk _).out.mono ?_; rintro e w2 ⟨rfl, hb2⟩)
        go_roundw
        case rel => exact ⟨k + 1, by omega, by go_num, by rw [← HTT.out], HE.out _ hb2⟩
        case measure => simp [intOf]; omega
      by_cases h6 : kind = 6
      · subst h6
        rw [itB6 rfl] at HTT hss
        dsimp only at HTT hss
        have kk := fun o => hide1 (rBits_any (wr.alloc o) bn bc ba bs (HBL.out.below ((Below.refl _ _).alloc (Nat.le_refl _) o) (Nat.le_refl _)) (by omega))
        generalize txt (fix bn 4 ++ chunks 8 bs) = tB at *
        clear f4
        go_wp2_with (go_at_call 35; refine (kk _).out.mono ?_; rintro e w2 ⟨rfl, hb2⟩)
        go_roundw
        case rel => exact ⟨k + 1, by omega, by go_num, by rw [← HTT.out], HE.out _ hb2⟩
        case measure => simp [intOf]; omega
      have e0 : (kind == 0) = false := by rw [beq_eq_false_iff_ne]; exact h0
      have e1 : (kind == 1) = false := by rw [beq_eq_false_iff_ne]; exact h1
      have e2 : (kind == 2) = false := by rw [beq_eq_false_iff_ne]; exact h2
      have e3 : (kind == 3) = false := by rw [beq_eq_false_iff_ne]; exact h3
      have e4 : (kind == 4) = false := by rw [beq_eq_false_iff_ne]; exact h4
      have e5 : (kind == 5) = false := by rw [beq_eq_false_iff_ne]; exact h5
      have e6 : (kind == 6) = false := by rw [beq_eq_false_iff_ne]; exact h6
      have HTA : Shy (tA = txt (itsB (l.take (k + 1)))) := ⟨by
        have := HTT.out
        rw [itB7 h0 h1 h2 h3 h4 h5 h6] at this
        rw [← this]
        apply nums_inj
        rw [nums_append, nums_txt (fun x hx => by cases hx), List.append_nil]⟩
      clear f4 h0 h1 h2 h3 h4 h5 h6 hss HTT
      go_wp2
      go_roundw
      case rel => exact ⟨k + 1, by omega, by go_num, by rw [← HTA.out], HE.out _ (Below.refl _ _)⟩
      case measure => simp [intOf]; omega
    · obtain rfl : k = n := by omega
      rw [List.take_of_length_le (by rw [HI.out.len]; omega)]
      have HB := hide1 hB
      clear hB
      go_wp2
      go_ret
      exact ⟨rfl, HB.out⟩
end Go.Proofs.Ytmmhfipdolbinaa
