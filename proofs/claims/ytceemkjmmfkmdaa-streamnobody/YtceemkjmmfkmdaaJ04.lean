/- A plan's chunks; the document's Plan. -/
import Derived.Test.YtceemkjmmfkmdaaJ03
namespace Go.Proofs.Ytceemkjmmfkmdaa.St
open Go.RowKit
set_option maxRecDepth 100000
attribute [local go_sem] not_any

/- the chunk k of n transfers; a whole one -/
def chk (F n k : Nat) : Chk := ⟨F + 512 * k, ((min 512 (n - 512 * k) : Nat) : Int), ((512 * k : Nat) : Int)⟩
def full (F k : Nat) : Chk := ⟨F + 512 * k, 512, ((512 * k : Nat) : Int)⟩
def pn (n : Nat) : Nat := (n + 511) / 512
def pl (F n : Nat) : List Chk := (List.range (pn n)).map (chk F n)
theorem pl_length (F n : Nat) : (pl F n).length = pn n := by simp [pl]
theorem pl_get {F n k : Nat} (h : k < pn n) : (pl F n)[k]? = some (chk F n k) := by rw [pl, List.getElem?_map, List.getElem?_range h]; rfl
theorem pn_le {n : Nat} (h : n ≤ 4096) : pn n ≤ 8 := by unfold pn; omega
def ini (F q : Nat) : List Chk := (List.range q).map (full F)
theorem ini_length (F q : Nat) : (ini F q).length = q := by simp [ini]
theorem chk_full {F n k : Nat} (h : 512 * k + 512 ≤ n) : chk F n k = full F k := by rw [chk, full, Nat.min_eq_left (by omega)]; rfl
theorem pl_succ {F i q r : Nat} (hi : i = 512 * q + r) (hr : r < 512) : pl F (i + 1) = ini F q ++ [⟨F + 512 * q, ((r + 1 : Nat) : Int), ((512 * q : Nat) : Int)⟩] := by
  have h1 : pn (i + 1) = q + 1 := by unfold pn; omega
  rw [pl, h1, List.range_succ, List.map_append, ini]
  congr 1
  · exact List.map_congr_left fun k hk => chk_full (by have := List.mem_range.1 hk; omega)
  · show [chk F (i + 1) q] = _
    rw [chk, Nat.min_eq_right (by omega), show i + 1 - 512 * q = r + 1 by omega]
theorem pl_zero {F i q : Nat} (hi : i = 512 * q) : pl F i = ini F q := by
  have h1 : pn i = q := by unfold pn; omega
  rw [pl, h1, ini]
  exact List.map_congr_left fun k hk => chk_full (by have := List.mem_range.1 hk; omega)
theorem pl_part {F i q r : Nat} (hi : i = 512 * q + r) (hr : r < 512) (h0 : 0 < r) : pl F i = ini F q ++ [⟨F + 512 * q, ((r : Nat) : Int), ((512 * q : Nat) : Int)⟩] := by
  obtain ⟨s, rfl⟩ : ∃ s, r = s + 1 := ⟨r - 1, by omega⟩
  rw [hi, show 512 * q + (s + 1) = 512 * q + s + 1 by omega, pl_succ rfl (by omega)]
/- the count of the last one goes up -/
theorem chks_bump (l : List Chk) (f : Nat) (c s : Int) (x : Int) : (chks (l ++ [⟨f, c, s⟩])).set (l.length * 3 + 1) (.int .i64 x) = chks (l ++ [⟨f, x, s⟩]) := by
  rw [chks_snoc, chks_snoc, List.set_append_right _ _ (by rw [chks_length]; omega), chks_length, Nat.add_sub_cancel_left]
  rfl
theorem bump_own {w : World} {base g cap q L F f : Nat} {t : TypeId} {c s x : Int} (h : w.ownsRow base t 3 (.slice (some ⟨g, 0, none⟩) L cap) L (chks (ini F q ++ [⟨f, c, s⟩]))) :
    (w.setCell ⟨g, q * 3 + 1, none⟩ (.int .i64 x)).ownsRow base t 3 (.slice (some ⟨g, 0, none⟩) L cap) L (chks (ini F q ++ [⟨f, x, s⟩])) := by
  have h1 := (h.stored (q * 3 + 1) (.int .i64 x)).1
  have h2 := chks_bump (ini F q) f c s x
  rw [ini_length] at h2
  rwa [h2] at h1
/- what Plan answers -/
def planC (F : Nat) (n : Int) : Int := if n < 0 ∨ 4096 < n then 2 else if 67108864 < (F : Int) + n then 24 else 0
def planL (F : Nat) (n : Int) : List Chk := if planC F n = 0 then pl F n.toNat else []
def PPost (F : Nat) (n : Int) (t : TypeId) (w : World) (e : Ending) (w' : World) : Prop :=
  ∃ a m c, e = .returned (.tuple #[.slice a m c, .int .i64 (planC F n)]) ∧ w'.ownsRow w.heap.size t 3 (.slice a m c) m (chks (planL F n)) ∧ Below w.heap.size w w'

set_option maxHeartbeats 8000000 in
theorem rplan_good (F n : Nat) (w : World) (hn : n ≤ 4096) (hF : F + n ≤ 67108864) :
    Calls Try.prog 9 #[.int .u64 (F : Int), .int .i64 (n : Int)] w fun e w' => ∃ a c, e = .returned (.tuple #[.slice a (pn n) c, .int .i64 0]) ∧ w'.ownsRow w.heap.size 54 3 (.slice a (pn n) c) (pn n) (chks (pl F n)) ∧ Below w.heap.size w w' := by
  obtain ⟨i0, hi, hz0, hz1, hz2⟩ := info_of' info_rchunk
  have t1 : ¬ (n : Int) < 0 := by omega
  have t2 : ¬ (4096 : Int) < (n : Int) := by omega
  have t3 : ¬ (67108864 : Int) < (F : Int) := by omega
  have e0 : IntKind.i64.wrap (F : Int) = (F : Int) := wrap_i64_nat (by omega)
  have e1 : IntKind.i64.wrap ((F : Int) + (n : Int)) = ((F + n : Nat) : Int) := by rw [← Int.natCast_add, wrap_i64_nat (by omega)]
  have t4 : ¬ (67108864 : Int) < ((F + n : Nat) : Int) := by omega
  obtain ⟨S, hS⟩ : ∃ S, S = F + n := ⟨_, rfl⟩
  rw [← hS] at e1 t4
  have HF : Hid (F ≤ 67108864) := (by omega : F ≤ 67108864)
  clear hS hF
  go_enter Try.func9, Try.ntmps9
  go_wp2
  go_loopw [6, 7] (fun v6 v7 wr => ∃ i : Nat, i ≤ n ∧ v7 = .int .i64 i ∧ wr.ownsRow w.heap.size 54 3 v6 (pn i) (chks (pl F i)) ∧ Below w.heap.size w wr) (fun _ v7 _ => n - (intOf v7).toNat)
  case atStart => exact ⟨0, Nat.zero_le _, rfl, World.ownsRow_nil _ _ _ _, Below.refl _ _⟩
  case round =>
    obtain ⟨i, hin, rfl, ho, hbe⟩ := hrel
    obtain ⟨la, lc, rfl⟩ := own_form ho
    by_cases hlt : i < n
    · have bi : (i : Int) < (n : Int) := by omega
      have bi2 : (i : Int) < 4096 := by omega
      obtain ⟨q, r, hqr, hr⟩ : ∃ q r, i = 512 * q + r ∧ r < 512 := ⟨i / 512, i % 512, by omega, by omega⟩
      have hq8 : q < 8 := by omega
      have er : Int.tmod (i : Int) 512 = (r : Int) := by rw [Int.tmod_eq_emod_of_nonneg (by omega)]; omega
      have hsu := pl_succ (F := F) hqr hr
      have hpn : pn (i + 1) = q + 1 := by unfold pn; omega
      by_cases h0 : r = 0
      · subst h0
        have hpz := pl_zero (F := F) (i := i) (q := q) (by omega)
        have hpi : pn i = q := by unfold pn; omega
        rw [hpz] at ho
        rw [hpi] at ho ⊢
        have eF : IntKind.u64.wrap ((F : Int) + (i : Int)) = ((F + i : Nat) : Int) := by rw [← Int.natCast_add, IntKind.wrap_u64]; have := HF.out; omega
        have eI : IntKind.u64.wrap (i : Int) = (i : Int) := by rw [IntKind.wrap_u64]; omega
        obtain ⟨X, hX⟩ : ∃ X, X = F + i := ⟨_, rfl⟩
        have hX2 : F + 512 * q = X := by omega
        have hi2 : ((512 * q : Nat) : Int) = (i : Int) := by omega
        rw [← hX] at eF
        rw [hX2, hi2] at hsu
        have HSU := hide1 hsu
        have HPN := hide1 hpn
        have HO := hide1 ho
        have HE := hide1 hbe
        clear hX hX2 hi2 hqr hsu hpn hpz hpi ho hbe
        go_upto_region 11 with (first
          | (at_builtin; go_must (refine wpList_append_lies _ rfl (.tmp 31) (.tmp 38) 27 rfl w.heap.size 54 i0 zero3 3 24 Try.underlying27 hi hz0 hz1 hz2 rfl (by decide) (.slice la q lc) q (chks (ini F q)) rfl (own_below HO.out (below1 _)) ⟨wr.heap.size, 0, none⟩ 1 1 (Chk.cells ⟨X, 0, (i : Int)⟩) rfl rfl (World.news_of_block (heap_alloc_new wr _)) (cells_one _) (by omega) (by unfold maxLen; omega) (by omega) (by have := HE.out.size; rw [size_alloc]; omega) _ rfl ?_; intro g8 cap8 w8 ro8 gr8 wh8 lt8))
          | fail)
        have hb8 : Below w.heap.size w w8 := (HE.out.alloc HE.out.size _).grown gr8 (by rw [size_alloc]; have := HE.out.size; omega) (fun k hk => (HO.out.lt k hk).1)
        rw [← chks_snoc] at ro8
        have HO8 := hide1 ro8
        have HE8 := hide1 hb8
        have c1 := ro8.cellAt (q * 3 + 1) (by omega)
        have f1 := ro8.frozenAt (q * 3 + 1)
        have hg8 := (ro8.lt g8 rfl).1
        rw [chks_get (show (ini F q ++ [(⟨X, 0, (i : Int)⟩ : Chk)])[q]? = some ⟨X, 0, (i : Int)⟩ by rw [List.getElem?_append_right (by rw [ini_length]; omega), ini_length, Nat.sub_self]; rfl) (by omega)] at c1
        have c2 : w8.cell? ⟨g8, q * 3 + 1, none⟩ = some (.int .i64 0) := c1
        have bq : (q : Int) < ((q + 1 : Nat) : Int) := by omega
        have eL : IntKind.i64.wrap (((q + 1 : Nat) : Int) - 1) = (q : Int) := by rw [IntKind.wrap_i64]; omega
        obtain ⟨L, hL⟩ : ∃ L, L = q + 1 := ⟨_, rfl⟩
        have HL := hide1 hL
        rw [← hL] at bq eL ⊢
        clear ro8 gr8 wh8 lt8 hb8 c1 hL
        go_wp2
        go_roundw
        case rel =>
          refine ⟨i + 1, by omega, by go_num, ?_, HE8.out.setCell hg8 _⟩
          rw [HSU.out, HPN.out]
          have h := bump_own (x := 1) HO8.out
          rw [HL.out]
          exact h
        case measure => simp [intOf]; omega
      · have hpp := pl_part (F := F) hqr hr (by omega)
        have hpi : pn i = q + 1 := by unfold pn; omega
        rw [hpp] at ho
        rw [hpi] at ho ⊢
        obtain ⟨g8, c8, e8, hg8⟩ := own_some ho (by omega)
        cases e8
        obtain ⟨X, hX⟩ : ∃ X, X = F + 512 * q := ⟨_, rfl⟩
        obtain ⟨K, hK⟩ : ∃ K : Nat, K = 512 * q := ⟨_, rfl⟩
        rw [← hX, ← hK] at hsu ho
        have er2 : ((r : Int) == 0) = false := by rw [beq_eq_false_iff_ne]; omega
        have er3 : IntKind.i64.wrap ((r : Int) + 1) = ((r + 1 : Nat) : Int) := by rw [IntKind.wrap_i64]; omega
        obtain ⟨R, hR⟩ : ∃ R, R = r + 1 := ⟨_, rfl⟩
        rw [← hR] at er3 hsu
        have c1 := ho.cellAt (q * 3 + 1) (by omega)
        have f1 := ho.frozenAt (q * 3 + 1)
        rw [chks_get (show (ini F q ++ [(⟨X, ((r : Nat) : Int), (K : Int)⟩ : Chk)])[q]? = some ⟨X, ((r : Nat) : Int), (K : Int)⟩ by rw [List.getElem?_append_right (by rw [ini_length]; omega), ini_length, Nat.sub_self]; rfl) (by omega)] at c1
        have c2 : wr.cell? ⟨g8, q * 3 + 1, none⟩ = some (.int .i64 (r : Int)) := c1
        have bq : (q : Int) < ((q + 1 : Nat) : Int) := by omega
        have eL : IntKind.i64.wrap (((q + 1 : Nat) : Int) - 1) = (q : Int) := by rw [IntKind.wrap_i64]; omega
        obtain ⟨L, hL⟩ : ∃ L, L = q + 1 := ⟨_, rfl⟩
        have HSU := hide1 hsu
        have HPN := hide1 hpn
        have HO := hide1 ho
        have HE := hide1 hbe
        have HL := hide1 hL
        rw [← hL] at bq eL ⊢
        clear hX hK hR hqr hsu hpn hpp hpi ho hbe hL c1 h0 hr
        go_wp2
        go_roundw
        case rel =>
          refine ⟨i + 1, by omega, by go_num, ?_, HE.out.setCell hg8 _⟩
          rw [HSU.out, HPN.out]
          have h := bump_own (x := (R : Int)) HO.out
          rw [HL.out]
          exact h
        case measure => simp [intOf]; omega
    · obtain rfl : i = n := by omega
      have nk : ¬ (i : Int) < (i : Int) := by omega
      have HO := hide1 ho
      have HE := hide1 hbe
      clear ho hbe
      go_wp2
      go_ret2
      exact ⟨la, lc, rfl, HO.out, HE.out⟩

theorem rplan_bad (F : Nat) (n : Int) (w : World) (hF : F < 18446744073709551616) (h : planC F n ≠ 0) :
    Calls Try.prog 9 #[.int .u64 (F : Int), .int .i64 n] w fun e w' => e = .returned (.tuple #[.slice none 0 0, .int .i64 (planC F n)]) ∧ w' = w := by
  unfold planC at h ⊢
  by_cases h1 : n < 0
  · rw [if_pos (.inl h1)]
    clear h
    go_enter Try.func9, Try.ntmps9
    go_wp2
    go_ret2
    exact ⟨rfl, rfl⟩
  · by_cases h2 : 4096 < n
    · rw [if_pos (.inr h2)]
      clear h
      go_enter Try.func9, Try.ntmps9
      go_wp2
      go_ret2
      exact ⟨rfl, rfl⟩
    · rw [if_neg (fun h => h.elim h1 h2)] at h ⊢
      by_cases h3 : 67108864 < (F : Int) + n
      · rw [if_pos h3]
        clear h
        by_cases h4 : (67108864 : Int) < (F : Int)
        · clear h3
          go_enter Try.func9, Try.ntmps9
          go_wp2
          go_ret2
          exact ⟨rfl, rfl⟩
        · have e0 : IntKind.i64.wrap (F : Int) = (F : Int) := wrap_i64_nat (by omega)
          obtain ⟨S, hS⟩ : ∃ S, S = (F : Int) + n := ⟨_, rfl⟩
          have e1 : IntKind.i64.wrap ((F : Int) + n) = S := by rw [IntKind.wrap_i64]; omega
          rw [← hS] at h3
          clear hS
          go_enter Try.func9, Try.ntmps9
          go_wp2
          go_ret2
          exact ⟨rfl, rfl⟩
      · rw [if_neg h3] at h
        exact absurd rfl h
theorem planC_good {F : Nat} {n : Int} (h : planC F n = 0) : ∃ k : Nat, n = (k : Int) ∧ k ≤ 4096 ∧ F + k ≤ 67108864 := by
  unfold planC at h
  by_cases h1 : n < 0 ∨ 4096 < n
  · rw [if_pos h1] at h; cases h
  · rw [if_neg h1] at h
    by_cases h3 : 67108864 < (F : Int) + n
    · rw [if_pos h3] at h; cases h
    · exact ⟨n.toNat, by omega, by omega, by omega⟩
theorem rplan_any (F : Nat) (n : Int) (w : World) (hF : F < 18446744073709551616) :
    Calls Try.prog 9 #[.int .u64 (F : Int), .int .i64 n] w (PPost F n 54 w) := by
  unfold PPost planL
  by_cases h : planC F n = 0
  · rw [if_pos h]
    obtain ⟨k, rfl, h1, h2⟩ := planC_good h
    rw [h]
    exact (rplan_good F k w h1 h2).mono fun _ _ ⟨a, c, he, ho, hb⟩ => ⟨a, pn k, c, he, ho, hb⟩
  · rw [if_neg h]
    refine (rplan_bad F n w hF h).mono ?_
    rintro e w' ⟨rfl, rfl⟩
    exact ⟨none, 0, 0, rfl, World.ownsRow_nil _ _ _ _, Below.refl _ _⟩
end Go.Proofs.Ytceemkjmmfkmdaa.St
