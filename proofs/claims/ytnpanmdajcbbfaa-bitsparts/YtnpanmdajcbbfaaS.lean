/- The document's own words of truths. -/
import Derived.Test.YtnpanmdajcbbfaaR
namespace Go.Proofs.Ytnpanmdajcbbfaa
open Go.RowKit
set_option maxRecDepth 100000
attribute [local go_sem] not_any mf_any

theorem info55 : (Try.prog.info? 55).map (fun i => (i.zero, i.size, i.bytes)) = some (some (.int .u64 0), 1, 8) := by kernel_rfl

theorem row_form {w : World} {base : Nat} {e : TypeId} {size n : Nat} {v : Value} {xs : List Value} (h : w.ownsRow base e size v n xs) : ∃ a c, v = .slice a n c := by
  rcases h.2 with ⟨h1, h2⟩ | ⟨g, cap, cur, h1, _⟩
  · exact ⟨none, 0, by rw [h1, h2]⟩
  · exact ⟨_, _, h1⟩

theorem row_some {w : World} {base : Nat} {e : TypeId} {size n : Nat} {v : Value} {xs : List Value} (h : w.ownsRow base e size v n xs) (hn : 0 < n) : ∃ g c, v = .slice (some ⟨g, 0, none⟩) n c ∧ base ≤ g ∧ g < w.heap.size := by
  rcases h.2 with ⟨h1, h2⟩ | ⟨g, cap, cur, h1, h2, h3, _⟩
  · omega
  · exact ⟨g, cap, h1, h2, lt_heap h3⟩

theorem own_nl {w : World} {base n : Nat} {a : Option Addr} {c : Nat} {ws : List Nat} (h : w.ownsRow base 55 1 (.slice a n c) n (u64s ws)) (hl : ws.length = n) : Nl w n a ws :=
  ⟨hl, fun j x hj => by
    have hjn : j < n := by rw [← hl]; exact (List.getElem?_eq_some_iff.1 hj).1
    obtain ⟨g, c', hv, _⟩ := row_some h (by omega)
    cases hv
    refine ⟨g, 0, rfl, ?_⟩
    rw [Nat.zero_add, h.cellAt j (by omega)]
    simp [u64s, hj]⟩

theorem u64s_snoc (ws : List Nat) : u64s ws ++ [.int .u64 0] = u64s (ws ++ [0]) := by simp [u64s]
theorem u64s_set (ws : List Nat) (j x : Nat) : (u64s ws).set j (.int .u64 (x : Int)) = u64s (ws.set j x) := by simp [u64s]

set_option maxHeartbeats 4000000 in
theorem rwords_any (w : World) (n c : Nat) (a : Option Addr) (l : List Bool) (hl : Bl w n a l) (hn : n ≤ 4194304) :
    Calls Try.prog 35 #[.slice a n c] w fun e w' => ∃ a' c', e = .returned (.slice a' (need n 64) c') ∧ Nl w' (need n 64) a' (chunks 64 l) ∧ Below w.heap.size w w' := by
  obtain ⟨i0, hi, hz0, hz1, hz2⟩ := info_parts info55
  have HL := hide1 hl
  clear hl
  go_enter Try.func35, Try.ntmps35
  go_wp2
  go_loopw [3, 4] (fun ov i wr => ∃ k : Nat, k ≤ n ∧ i = .int .i64 k ∧ wr.ownsRow w.heap.size 55 1 ov (need k 64) (u64s (chunks 64 (l.take k))) ∧ Below w.heap.size w wr) (fun _ i _ => n - (intOf i).toNat)
  case atStart =>
    refine ⟨0, Nat.zero_le _, rfl, ?_, Below.refl _ _⟩
    have e1 : need 0 64 = 0 := by decide
    have e2 : u64s (chunks 64 (List.take 0 l)) = [] := by simp [chunks, need64, u64s]
    rw [e1, e2]
    exact World.ownsRow_nil _ _ _ _
  case round =>
    obtain ⟨k, hk, rfl, hrow, hB⟩ := hrel
    by_cases hlt : k < n
    · obtain ⟨x, hx⟩ : ∃ x, l[k]? = some x := ⟨_, List.getElem?_eq_getElem (by rw [HL.out.len]; exact hlt)⟩
      obtain ⟨g, o, rfl, hc0⟩ := HL.out.at' k x hx
      have hgl := lt_cell hc0
      have hc := (hB.cell (p := ⟨g, o + k, none⟩) hgl).trans hc0
      have HC0 := hide1 hc0
      clear hc0
      have hlk : (l.take k).length = k := by rw [List.length_take, HL.out.len]; omega
      have HT := hide1 (take_snoc hx)
      have hF := chunks_snoc_false (s := 64) (by omega) (l.take k)
      have hTr := chunks_snoc_true (s := 64) (by omega) (l.take k)
      rw [hlk] at hF hTr
      have hns := need_snoc64 k
      have hkn : need (k + 1) 64 ≤ 65536 := by rw [need64]; omega
      have hkn' : need k 64 ≤ 65536 := by rw [need64]; omega
      obtain ⟨la, lc, rfl⟩ := row_form hrow
      have hkd : k / 64 < need (k + 1) 64 := by rw [need64]; omega
      have hck : (u64s (chunks 64 (l.take k ++ [false])))[k / 64]? = some (.int .u64 (chunk 64 (l.take k ++ [false]) (k / 64) : Nat)) := by
        have := chunks_get (s := 64) (l := l.take k ++ [false]) (k := k / 64) (by rw [List.length_append, hlk]; exact hkd)
        simp [u64s, this]
      have hk0 : (0 : Int) ≤ (k : Int) / 64 := by omega
      have hk1 : (k : Int) / 64 < (need (k + 1) 64 : Int) := by omega
      have hk2 : ((k : Int) / 64).toNat = k / 64 := by omega
      have hkw : IntKind.i64.wrap ((k : Int) / 64) = (k : Int) / 64 := by rw [IntKind.wrap_i64]; omega
      have HSum : Hid (chunk 64 (l.take k ++ [false]) (k / 64) + 2 ^ (k % 64) < 18446744073709551616) := by
        have h1 := chunk_last_lt (s := 64) (l.take k)
        rw [hlk] at h1
        have h2 : 2 ^ (k % 64) ≤ 2 ^ 63 := Nat.pow_le_pow_right (by omega) (by omega)
        have h3 : (2 : Nat) ^ 63 = 9223372036854775808 := by decide
        show _ < _
        omega
      by_cases h64 : k % 64 = 0
      · rw [if_pos h64] at hF hns
        have hm : (((k : Int) % 64) == 0) = true := by
          have : (k : Int) % 64 = 0 := by omega
          simp [this]
        have HW := hide1 (And.intro hrow hB)
        have HF := hide1 hF
        have HTr := hide1 hTr
        have HNS := hide1 hns
        clear hrow hB hF hTr hns hx
        cases x with
        | false =>
          go_wp2_with (at_builtin; go_must (refine wpList_append_own _ rfl _ _ 23 rfl w.heap.size 55 i0 (.int .u64 0) 1 8 Try.underlying23 hi hz0 hz1 hz2 rfl (by decide) _ _ _ rfl (HW.out.1.alloc _) ⟨wr.heap.size, 0, none⟩ 1 1 [.int .u64 0] rfl rfl (cell_one_new _ _ _) (by simp [Value.oneCell']) (by unfold maxLen; omega) (by omega) (by have := HW.out.2.size; simp; omega) ?_); intro v' w1 hown' hgrow _; rw [u64s_snoc, ← HF.out, ← HNS.out] at hown'; have hB1 : Below w.heap.size w w1 := (HW.out.2.alloc HW.out.2.size _).grown hgrow (by have := HW.out.2.size; simp; omega) (fun b hb => (HW.out.1.lt b hb).1); have hc1 := (hB1.cell (p := ⟨g, o + k, none⟩) hgl).trans HC0.out; obtain ⟨gg, cc, rfl, hgg, hgl1⟩ := row_some hown' (by rw [need64]; omega); have hce := hown'.cellAt (k / 64) (by omega); have hfe := hown'.frozenAt (k / 64); have HO := hide1 hown'; have HB1 := hide1 hB1; clear hown' hB1 hgrow)
          go_roundw
          case rel => exact ⟨k + 1, by omega, by go_num, by rw [HT.out]; exact HO.out, HB1.out⟩
          case measure => simp [intOf]; omega
        | true =>
          go_wp2_with (at_builtin; go_must (refine wpList_append_own _ rfl _ _ 23 rfl w.heap.size 55 i0 (.int .u64 0) 1 8 Try.underlying23 hi hz0 hz1 hz2 rfl (by decide) _ _ _ rfl (HW.out.1.alloc _) ⟨wr.heap.size, 0, none⟩ 1 1 [.int .u64 0] rfl rfl (cell_one_new _ _ _) (by simp [Value.oneCell']) (by unfold maxLen; omega) (by omega) (by have := HW.out.2.size; simp; omega) ?_); intro v' w1 hown' hgrow _; rw [u64s_snoc, ← HF.out, ← HNS.out] at hown'; have hB1 : Below w.heap.size w w1 := (HW.out.2.alloc HW.out.2.size _).grown hgrow (by have := HW.out.2.size; simp; omega) (fun b hb => (HW.out.1.lt b hb).1); have hc1 := (hB1.cell (p := ⟨g, o + k, none⟩) hgl).trans HC0.out; obtain ⟨gg, cc, rfl, hgg, hgl1⟩ := row_some hown' (by rw [need64]; omega); have hce := hown'.cellAt (k / 64) (by omega); rw [hck] at hce; have hfe := hown'.frozenAt (k / 64); have HO := hide1 hown'; have HB1 := hide1 hB1; clear hown' hB1 hgrow)
          have hv : IntKind.u64.wrap (((chunk 64 (l.take k ++ [false]) (k / 64) : Nat) : Int) + 1) = ((chunk 64 (l.take k ++ [false]) (k / 64) + 2 ^ (k % 64) : Nat) : Int) := by
            have hs := HSum.out
            rw [h64, Nat.pow_zero] at hs ⊢
            rw [IntKind.wrap_u64]
            omega
          rw [hv]
          obtain ⟨r1, r2⟩ := HO.out.stored (k / 64) (.int .u64 ((chunk 64 (l.take k ++ [false]) (k / 64) + 2 ^ (k % 64) : Nat) : Int))
          rw [u64s_set, ← HTr.out, ← HT.out] at r1
          exact ⟨⟨k + 1, by omega, by go_num, r1, HB1.out.setCell (by simp; omega) _⟩, by simp [intOf]; omega⟩
      · rw [if_neg h64] at hF hns
        have hm : (((k : Int) % 64) == 0) = false := by
          have : ¬ (k : Int) % 64 = 0 := by omega
          simp [this]
        rw [← hF] at hrow
        rw [hns] at hkd hk1
        obtain ⟨gg, cc, hvv, hgg, hgl1⟩ := row_some hrow (by omega)
        cases hvv
        have hce := hrow.cellAt (k / 64) (by omega)
        rw [hck] at hce
        have hfe := hrow.frozenAt (k / 64)
        have HO := hide1 hrow
        have HB1 := hide1 hB
        have HTr := hide1 hTr
        have HNS := hide1 hns
        clear hrow hB hF hTr hns hx hck
        cases x with
        | false =>
          go_wp2
          exact ⟨⟨k + 1, by omega, by go_num, by rw [HT.out, HNS.out]; exact HO.out, HB1.out⟩, by simp [intOf]; omega⟩
        | true =>
          have hv : IntKind.u64.wrap (((chunk 64 (l.take k ++ [false]) (k / 64) : Nat) : Int) + IntKind.u64.wrap (2 ^ (k % 64))) = ((chunk 64 (l.take k ++ [false]) (k / 64) + 2 ^ (k % 64) : Nat) : Int) := by
            have hs := HSum.out
            rw [wrap_pow (Nat.mod_lt _ (by omega)), ← Int.natCast_add]
            generalize chunk 64 (l.take k ++ [false]) (k / 64) + 2 ^ (k % 64) = y at hs ⊢
            rw [IntKind.wrap_u64]
            omega
          go_wp2
          obtain ⟨r1, r2⟩ := HO.out.stored (k / 64) (.int .u64 ((chunk 64 (l.take k ++ [false]) (k / 64) + 2 ^ (k % 64) : Nat) : Int))
          rw [u64s_set, ← HTr.out, ← HT.out] at r1
          have hv2 : ((chunk 64 (l.take k ++ [false]) (k / 64) : Nat) : Int) + 2 ^ (k % 64) = ((chunk 64 (l.take k ++ [false]) (k / 64) + 2 ^ (k % 64) : Nat) : Int) := by rw [pow_cast, ← Int.natCast_add]
          rw [hv2]
          exact ⟨⟨k + 1, by omega, by go_num, by rw [HNS.out]; exact r1, HB1.out.setCell (by simp; omega) _⟩, by simp [intOf]; omega⟩
    · have : k = n := by omega
      subst this
      obtain ⟨la, lc, rfl⟩ := row_form hrow
      go_wp2
      go_ret
      rw [List.take_of_length_le (by rw [HL.out.len]; omega)] at hrow
      exact ⟨_, _, rfl, own_nl hrow (by rw [chunks_length, HL.out.len]), hB⟩

end Go.Proofs.Ytnpanmdajcbbfaa
