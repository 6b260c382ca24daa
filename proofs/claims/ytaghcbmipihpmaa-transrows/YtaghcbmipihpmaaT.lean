/- The document's own bytes of truths. -/
import Derived.Test.YtaghcbmipihpmaaS
namespace Go.Proofs.Ytaghcbmipihpmaa
open Go.RowKit
set_option maxRecDepth 100000
attribute [local go_sem] not_any mf_any

theorem info5' : (Try.prog.info? 5).map (fun i => (i.zero, i.size, i.bytes)) = some (some (.int .u8 0), 1, 1) := by kernel_rfl
theorem u8s_snoc (ws : List Nat) : u8s ws ++ [.int .u8 0] = u8s (ws ++ [0]) := by simp [u8s]
theorem u8s_set (ws : List Nat) (j x : Nat) : (u8s ws).set j (.int .u8 (x : Int)) = u8s (ws.set j x) := by simp [u8s]
theorem wrap_pow8 {j : Nat} (h : j < 8) : IntKind.u8.wrap (2 ^ j) = ((2 ^ j : Nat) : Int) := by
  rw [IntKind.wrap_u8]
  have : 2 ^ j < 2 ^ 8 := Nat.pow_lt_pow_right (by omega) h
  have e : ((2 : Int) ^ j) = ((2 ^ j : Nat) : Int) := by simp
  rw [e]
  obtain ⟨p, hp⟩ : ∃ p, p = 2 ^ j := ⟨_, rfl⟩
  rw [← hp] at this ⊢
  omega

set_option maxHeartbeats 4000000 in
theorem rbytes_any (w : World) (n c : Nat) (a : Option Addr) (l : List Bool) (hl : Bl w n a l) (hn : n ≤ 4194304) :
    Calls Try.prog 37 #[.slice a n c] w fun e w' => e = .returned (.string (txt (chunks 8 l))) ∧ Below w.heap.size w w' := by
  obtain ⟨i0, hi, hz0, hz1, hz2⟩ := info_parts info5'
  have HL := hide1 hl
  clear hl
  go_enter Try.func37, Try.ntmps37
  go_wp2
  go_loopw [3, 4] (fun ov i wr => ∃ k : Nat, k ≤ n ∧ i = .int .i64 k ∧ wr.ownsRow w.heap.size 5 1 ov (need k 8) (u8s (chunks 8 (l.take k))) ∧ Below w.heap.size w wr) (fun _ i _ => n - (intOf i).toNat)
  case atStart =>
    refine ⟨0, Nat.zero_le _, rfl, ?_, Below.refl _ _⟩
    have e1 : need 0 8 = 0 := by decide
    have e2 : u8s (chunks 8 (List.take 0 l)) = [] := by simp [chunks, need8, u8s]
    rw [e1, e2]
    exact World.ownsRow_nil _ _ _ _
  case round =>
    obtain ⟨k, hk, rfl, hrow, hB⟩ := hrel
    by_cases hlt : k < n
    · obtain ⟨x, hx⟩ : ∃ x, l[k]? = some x := ⟨_, List.getElem?_eq_getElem (by rw [HL.out.len]; exact hlt)⟩
      obtain ⟨g, o, rfl, hc0⟩ := HL.out.at' k x hx
      have hgl := lt_cell hc0
      have hc := (hB.cell (p := ⟨g, o + k, none⟩) hgl).trans hc0
      have HC0 := hide1 hc0
      clear hc0
      have hlk : (l.take k).length = k := by rw [List.length_take, HL.out.len]; omega
      have HT := hide1 (take_snoc hx)
      have hF := chunks_snoc_false (s := 8) (by omega) (l.take k)
      have hTr := chunks_snoc_true (s := 8) (by omega) (l.take k)
      rw [hlk] at hF hTr
      have hns := need_snoc8 k
      have hkn : need (k + 1) 8 ≤ 524288 := by rw [need8]; omega
      have hkn' : need k 8 ≤ 524288 := by rw [need8]; omega
      obtain ⟨la, lc, rfl⟩ := row_form hrow
      have hkd : k / 8 < need (k + 1) 8 := by rw [need8]; omega
      have hck : (u8s (chunks 8 (l.take k ++ [false])))[k / 8]? = some (.int .u8 (chunk 8 (l.take k ++ [false]) (k / 8) : Nat)) := by
        have := chunks_get (s := 8) (l := l.take k ++ [false]) (k := k / 8) (by rw [List.length_append, hlk]; exact hkd)
        simp [u8s, this]
      have hk0 : (0 : Int) ≤ (k : Int) / 8 := by omega
      have hk1 : (k : Int) / 8 < (need (k + 1) 8 : Int) := by omega
      have hk2 : ((k : Int) / 8).toNat = k / 8 := by omega
      have hkw : IntKind.i64.wrap ((k : Int) / 8) = (k : Int) / 8 := by rw [IntKind.wrap_i64]; omega
      have HSum : Hid (chunk 8 (l.take k ++ [false]) (k / 8) + 2 ^ (k % 8) < 256) := by
        have h1 := chunk_last_lt (s := 8) (l.take k)
        rw [hlk] at h1
        have h2 : 2 ^ (k % 8) ≤ 2 ^ 7 := Nat.pow_le_pow_right (by omega) (by omega)
        have h3 : (2 : Nat) ^ 7 = 128 := by decide
        show _ < _
        omega
      by_cases h8 : k % 8 = 0
      · rw [if_pos h8] at hF hns
        have hm : (((k : Int) % 8) == 0) = true := by
          have : (k : Int) % 8 = 0 := by omega
          simp [this]
        have HW := hide1 (And.intro hrow hB)
        have HF := hide1 hF
        have HTr := hide1 hTr
        have HNS := hide1 hns
        clear hrow hB hF hTr hns hx
        cases x with
        | false =>
          go_wp2_with (at_builtin; go_must (refine wpList_append_own _ rfl _ _ 71 rfl w.heap.size 5 i0 (.int .u8 0) 1 1 Try.underlying71 hi hz0 hz1 hz2 rfl (by decide) _ _ _ rfl (HW.out.1.alloc _) ⟨wr.heap.size, 0, none⟩ 1 1 [.int .u8 0] rfl rfl (cell_one_new _ _ _) (by simp [Value.oneCell']) (by unfold maxLen; omega) (by omega) (by have := HW.out.2.size; simp; omega) ?_); intro v' w1 hown' hgrow _; rw [u8s_snoc, ← HF.out, ← HNS.out] at hown'; have hB1 : Below w.heap.size w w1 := (HW.out.2.alloc HW.out.2.size _).grown hgrow (by have := HW.out.2.size; simp; omega) (fun b hb => (HW.out.1.lt b hb).1); have hc1 := (hB1.cell (p := ⟨g, o + k, none⟩) hgl).trans HC0.out; obtain ⟨gg, cc, rfl, hgg, hgl1⟩ := row_some hown' (by rw [need8]; omega); have hce := hown'.cellAt (k / 8) (by omega); have hfe := hown'.frozenAt (k / 8); have HO := hide1 hown'; have HB1 := hide1 hB1; clear hown' hB1 hgrow)
          go_roundw
          case rel => exact ⟨k + 1, by omega, by go_num, by rw [HT.out]; exact HO.out, HB1.out⟩
          case measure => simp [intOf]; omega
        | true =>
          go_wp2_with (at_builtin; go_must (refine wpList_append_own _ rfl _ _ 71 rfl w.heap.size 5 i0 (.int .u8 0) 1 1 Try.underlying71 hi hz0 hz1 hz2 rfl (by decide) _ _ _ rfl (HW.out.1.alloc _) ⟨wr.heap.size, 0, none⟩ 1 1 [.int .u8 0] rfl rfl (cell_one_new _ _ _) (by simp [Value.oneCell']) (by unfold maxLen; omega) (by omega) (by have := HW.out.2.size; simp; omega) ?_); intro v' w1 hown' hgrow _; rw [u8s_snoc, ← HF.out, ← HNS.out] at hown'; have hB1 : Below w.heap.size w w1 := (HW.out.2.alloc HW.out.2.size _).grown hgrow (by have := HW.out.2.size; simp; omega) (fun b hb => (HW.out.1.lt b hb).1); have hc1 := (hB1.cell (p := ⟨g, o + k, none⟩) hgl).trans HC0.out; obtain ⟨gg, cc, rfl, hgg, hgl1⟩ := row_some hown' (by rw [need8]; omega); have hce := hown'.cellAt (k / 8) (by omega); rw [hck] at hce; have hfe := hown'.frozenAt (k / 8); have HO := hide1 hown'; have HB1 := hide1 hB1; clear hown' hB1 hgrow)
          have hv : (((chunk 8 (l.take k ++ [false]) (k / 8) : Nat) : Int) + 1) % 256 = ((chunk 8 (l.take k ++ [false]) (k / 8) + 2 ^ (k % 8) : Nat) : Int) := by
            have hs := HSum.out
            rw [h8, Nat.pow_zero] at hs ⊢
            omega
          rw [hv]
          obtain ⟨r1, r2⟩ := HO.out.stored (k / 8) (.int .u8 ((chunk 8 (l.take k ++ [false]) (k / 8) + 2 ^ (k % 8) : Nat) : Int))
          rw [u8s_set, ← HTr.out, ← HT.out] at r1
          exact ⟨⟨k + 1, by omega, by go_num, r1, HB1.out.setCell (by simp; omega) _⟩, by simp [intOf]; omega⟩
      · rw [if_neg h8] at hF hns
        have hm : (((k : Int) % 8) == 0) = false := by
          have : ¬ (k : Int) % 8 = 0 := by omega
          simp [this]
        rw [← hF] at hrow
        rw [hns] at hkd hk1
        obtain ⟨gg, cc, hvv, hgg, hgl1⟩ := row_some hrow (by omega)
        cases hvv
        have hce := hrow.cellAt (k / 8) (by omega)
        rw [hck] at hce
        have hfe := hrow.frozenAt (k / 8)
        have HO := hide1 hrow
        have HB1 := hide1 hB
        have HTr := hide1 hTr
        have HNS := hide1 hns
        clear hrow hB hF hTr hns hx hck
        cases x with
        | false =>
          go_wp2
          exact ⟨⟨k + 1, by omega, by go_num, by rw [HT.out, HNS.out]; exact HO.out, HB1.out⟩, by simp [intOf]; omega⟩
        | true =>
          have hv : IntKind.u8.wrap (((chunk 8 (l.take k ++ [false]) (k / 8) : Nat) : Int) + IntKind.u8.wrap (2 ^ (k % 8))) = ((chunk 8 (l.take k ++ [false]) (k / 8) + 2 ^ (k % 8) : Nat) : Int) := by
            have hs := HSum.out
            rw [wrap_pow8 (Nat.mod_lt _ (by omega)), ← Int.natCast_add]
            generalize chunk 8 (l.take k ++ [false]) (k / 8) + 2 ^ (k % 8) = y at hs ⊢
            rw [IntKind.wrap_u8]
            omega
          go_wp2
          obtain ⟨r1, r2⟩ := HO.out.stored (k / 8) (.int .u8 ((chunk 8 (l.take k ++ [false]) (k / 8) + 2 ^ (k % 8) : Nat) : Int))
          rw [u8s_set, ← HTr.out, ← HT.out] at r1
          have hv2 : ((chunk 8 (l.take k ++ [false]) (k / 8) : Nat) : Int) + 2 ^ (k % 8) = ((chunk 8 (l.take k ++ [false]) (k / 8) + 2 ^ (k % 8) : Nat) : Int) := by rw [pow_cast, ← Int.natCast_add]
          have hv3 : ((chunk 8 (l.take k ++ [false]) (k / 8) + 2 ^ (k % 8) : Nat) : Int) % 256 = ((chunk 8 (l.take k ++ [false]) (k / 8) + 2 ^ (k % 8) : Nat) : Int) := by
            have hs := HSum.out
            generalize chunk 8 (l.take k ++ [false]) (k / 8) + 2 ^ (k % 8) = y at hs ⊢
            omega
          rw [hv2, hv3]
          exact ⟨⟨k + 1, by omega, by go_num, by rw [HNS.out]; exact r1, HB1.out.setCell (by simp; omega) _⟩, by simp [intOf]; omega⟩
    · have : k = n := by omega
      subst this
      rw [List.take_of_length_le (by rw [HL.out.len]; omega)] at hrow
      by_cases h0 : k = 0
      · subst h0
        have hl0 : l = [] := List.eq_nil_of_length_eq_zero HL.out.len
        subst hl0
        rcases hrow.2 with ⟨h1, _⟩ | ⟨g, c', cur, h1, _⟩
        · subst h1
          have hcv := run_convert_bytes_nil (P := Try.prog) wr 71 5 Try.underlying71 Try.underlying5 0 0 9 Try.underlying9
          go_wp2
          go_ret
          exact ⟨rfl, hB⟩
        · subst h1
          have hcv := text_of (w := wr) (g := g) (n := need 0 8) (c := c') (bs := []) (by decide) (fun j x hj => by simp at hj)
          go_wp2
          go_ret
          exact ⟨rfl, hB⟩
      · obtain ⟨g, c', rfl, _, _⟩ := row_some hrow (by rw [need8]; omega)
        have hcv := text_of (w := wr) (g := g) (n := need k 8) (c := c') (bs := chunks 8 l) (by rw [chunks_length, HL.out.len]) (fun j x hj => by
          rw [hrow.cellAt j (by have := (chunks_get' hj).1; rw [HL.out.len] at this; omega)]
          simp [u8s, hj])
        go_wp2
        go_ret
        exact ⟨rfl, hB⟩

end Go.Proofs.Ytaghcbmipihpmaa
