/- The document's own answer of its nodes: the numbers of all roots. -/
import Derived.Test.YtogninhgibbfnaaDoorHd
import Derived.Deep.RegionHeld3
import Derived.Deep.AppendLies
namespace Go.Proofs.YtogninhgibbfnaaDoor
open Go.RowKit Go.Shelf
set_option maxRecDepth 100000
attribute [local go_sem] not_any mf_any

def cAt (is : List (Option Info)) (x : Int) : List Int := match lookI is x with | some i => i.codes | none => []

theorem row_base {W : World} {b b' : Nat} {e : TypeId} {size k : Nat} {v : Value} {xs : List Value} (h : W.ownsRow b e size v k xs) (hb : b' ≤ b) : W.ownsRow b' e size v k xs := by
  refine ⟨h.1, ?_⟩
  rcases h.2 with h0 | ⟨g, cap, cur, hv, hg, rest⟩
  · exact .inl h0
  · exact .inr ⟨g, cap, cur, hv, by omega, rest⟩

/- what a call below gives, where there is a root -/
def Gave (W X : World) (cs : List Int) (e : Ending) (w' : World) : Prop :=
  ∃ g cap, e = .returned (.slice (some ⟨g, 0, none⟩) cs.length cap) ∧ w'.ownsRow W.heap.size 3 1 (.slice (some ⟨g, 0, none⟩) cs.length cap) cs.length (ints cs) ∧ Below X.heap.size X w' ∧ Below W.heap.size W w'

theorem ints_cells {W : World} {b g cap : Nat} {cs : List Int} (h : W.ownsRow b 3 1 (.slice (some ⟨g, 0, none⟩) cs.length cap) cs.length (ints cs)) : ∀ j u, (ints cs)[j]? = some u → W.cell? ((⟨g, 0, none⟩ : Addr).add j) = some u := h.cells rfl

theorem ints_one (cs : List Int) : ∀ u ∈ ints cs, u.oneCell' = true := by
  intro u hu
  simp [ints] at hu
  obtain ⟨x, _, rfl⟩ := hu
  rfl

theorem ints_len (cs : List Int) : (ints cs).length = cs.length := by simp [ints]

set_option maxHeartbeats 4000000 in
theorem rcodes_any (v : Value) (l : List Rw) (is : List (Option Info)) (hg : Good l is) (hl : l.length ≤ 1000000) (hb : ∀ n i, lookI is n = some i → 1 ≤ i.codes.length ∧ i.codes.length ≤ 1000000) :
    ∀ (k n : Nat), n < k → n < l.length → ∀ W : World, RowsAt W v l → Calls Tryd.prog 10 #[v, .int .i64 n] W fun e w' => ∃ cv, e = .returned cv ∧ w'.ownsRow W.heap.size 3 1 cv (cAt is n).length (ints (cAt is n)) ∧ Below W.heap.size W w'
  | 0, n, h, _ => by omega
  | k + 1, n, hnk, hn => fun W hv => by
    have IH := rcodes_any v l is hg hl hb k
    obtain ⟨r, o, hr, ho, hk, hf⟩ := hg.at hn
    have hK := kind_calls' v l hl n W hv
    rw [hk] at hK
    have HV := hide1 hv
    obtain ⟨a, cap, rfl, hc⟩ := hv
    obtain ⟨g, oo, rfl, c0, c1, c2, c3, c4⟩ := hc n r hr
    clear hc hk hr
    rcases hf with ⟨h0, rfl⟩ | ⟨h0, _, rfl⟩ | ⟨h0, _, rfl⟩ | ⟨h0, h1, h2, i, h3, rfl⟩ | ⟨h0, h1, h2, h3, h4, i, j, h5, h6, rfl⟩
    · have e : cAt is n = [] := by simp [cAt, ho]
      rw [e]
      rw [h0] at hK
      have HK := hide1 hK
      clear hK ho e IH
      go_enter Tryd.func10, Tryd.ntmps10
      go_wp2_with (go_at_call 28; refine HK.out.mono ?_; rintro e w' ⟨rfl, rfl⟩)
      go_ret
      exact ⟨_, rfl, World.ownsRow_nil _ _ _ _, Below.refl _ _⟩
    · have e : cAt is n = [r.code] := by simp [cAt, ho, rootI]
      rw [e]
      rw [h0] at hK
      have HK := hide1 hK
      clear hK ho e IH
      go_enter Tryd.func10, Tryd.ntmps10
      go_wp2_with (go_at_call 28; refine HK.out.mono ?_; rintro e w' ⟨rfl, rfl⟩)
      go_ret
      exact ⟨_, rfl, World.ownsRow_lit W #[.int .i64 r.code] 1 (Nat.le_refl _) (by unfold maxLen; omega) rfl, (Below.refl _ _).alloc (Nat.le_refl _) _⟩
    · have e : cAt is n = [r.code] := by simp [cAt, ho, errnoI]
      rw [e]
      rw [h0] at hK
      have HK := hide1 hK
      clear hK ho e IH
      go_enter Tryd.func10, Tryd.ntmps10
      go_wp2_with (go_at_call 28; refine HK.out.mono ?_; rintro e w' ⟨rfl, rfl⟩)
      go_ret
      exact ⟨_, rfl, World.ownsRow_lit W #[.int .i64 r.code] 1 (Nat.le_refl _) (by unfold maxLen; omega) rfl, (Below.refl _ _).alloc (Nat.le_refl _) _⟩
    · obtain ⟨na, hna⟩ : ∃ na : Nat, r.a = na := ⟨r.a.toNat, by omega⟩
      rw [hna] at h1 h2 h3 c3
      have e : cAt is n = cAt is na := by simp [cAt, ho, h3, wrapI]
      rw [e]
      rw [h0] at hK
      have HK := hide1 hK
      have HA := hide1 (IH na (by omega) (by omega) W HV.out)
      clear hK ho e IH h3
      go_enter Tryd.func10, Tryd.ntmps10
      go_wp2_with (first | (go_at_call 28; refine HK.out.mono ?_; rintro e w' ⟨rfl, rfl⟩) | fail)
      refine HA.out.mono ?_
      rintro e w' ⟨cv, rfl, hrow, hB⟩
      go_wp2
      go_ret
      exact ⟨_, rfl, hrow, hB⟩
    · obtain ⟨na, hna⟩ : ∃ na : Nat, r.a = na := ⟨r.a.toNat, by omega⟩
      obtain ⟨nb, hnb⟩ : ∃ nb : Nat, r.b = nb := ⟨r.b.toNat, by omega⟩
      rw [hna] at h1 h2 h5 c3
      rw [hnb] at h3 h4 h6 c4
      have ea : cAt is na = i.codes := by simp [cAt, h5]
      have eb : cAt is nb = j.codes := by simp [cAt, h6]
      have gave : ∀ (m : Nat) (i : Info), m < n → lookI is m = some i → ∀ X, Below W.heap.size W X → Calls Tryd.prog 10 #[.slice (some ⟨g, oo, none⟩) l.length cap, .int .i64 m] X (Gave W X i.codes) := by
        intro m i hm hi X hX
        have e : cAt is m = i.codes := by simp [cAt, hi]
        refine (IH m (by omega) (by omega) X (HV.out.below hX)).mono ?_
        rintro e w' ⟨cv, rfl, hrow, hB⟩
        rw [e] at hrow
        obtain ⟨gg, cp, rfl, hge, hlt⟩ := hrow.form (by have := hb m i hi; omega)
        exact ⟨gg, cp, rfl, row_base hrow hX.size, hB, hX.trans (hB.mono hX.size)⟩
      have HA := hide1 (gave na i (by omega) h5)
      have HB := hide1 (gave nb j (by omega) h6)
      have ba := hb na i h5
      have bb := hb nb j h6
      rw [h0] at hK
      have e : cAt is n = i.codes ++ j.codes := by simp [cAt, ho, pairI]
      rw [e]
      have HK := hide1 hK
      have hgl := lt_cell c3
      have KS : ∀ w', Below W.heap.size W w' → w'.cell? ⟨g, oo + n * 5 + 3, none⟩ = some (.int .i64 na) ∧ w'.cell? ⟨g, oo + n * 5 + 4, none⟩ = some (.int .i64 nb) ∧ Below W.heap.size W w' := fun w' hB =>
        ⟨(hB.cell (p := ⟨g, _, none⟩) hgl).trans c3, (hB.cell (p := ⟨g, _, none⟩) hgl).trans c4, hB⟩
      have HS := hide1 KS
      have HC := hide1 (And.intro ba bb)
      have hn0 : (0 : Int) ≤ (n : Int) := Int.natCast_nonneg _
      have hn1 : (n : Int) < (l.length : Int) := by omega
      obtain ⟨i0, hi, hz0, hz1, hz2⟩ := info_parts info3
      clear hK ho e IH ea eb h5 h6 gave ba bb KS hb hg
      go_enter Tryd.func10, Tryd.ntmps10
      go_wp2_with (go_at_call 28; refine HK.out.mono ?_; rintro e w' ⟨rfl, rfl⟩)
      go_region_held3 (fun w' => w'.cell? ⟨g, oo + n * 5 + 3, none⟩ = some (.int .i64 na) ∧ w'.cell? ⟨g, oo + n * 5 + 4, none⟩ = some (.int .i64 nb) ∧ Below W.heap.size W w')
        ((refine HS.out _ ?_; first | assumption | exact (Below.refl _ _).drew | exact ((Below.refl _ _).drew).alloc (Nat.le_refl _) _ | exact kaW.alloc kaW.size _))
        (first
          | (go_at_call_of 10 (na); refine (HA.out _ (by first | exact (Below.refl _ _).drew | exact ((Below.refl _ _).drew).alloc (Nat.le_refl _) _)).mono ?_; rintro e w2 ⟨ga, ca, rfl, ra, ka, kaW⟩)
          | (go_at_call_of 10 (nb); refine (HB.out _ k3).mono ?_; rintro e w4 ⟨gb, cb, rfl, rb, kb, kbW⟩)
          | (refine step_append_lies _ (by rfl) _ _ _ (by rfl) W.heap.size 3 i0 (.int .i64 0) 1 8 Tryd.underlying29 hi hz0 hz1 hz2 rfl (by decide) (.slice (some ⟨W.heap.size, 0, none⟩) 0 0) 0 [] (by rfl) (row_below (World.ownsRow.drew (World.ownsRow_made W #[] 0 (Nat.le_refl _) (Nat.zero_le _) rfl)) ka) ⟨ga, 0, none⟩ i.codes.length ca (ints i.codes) (by rfl) (by simp [ints]) (ints_cells ra) (ints_one _) (by have := HC.out; omega) (by have := HC.out; unfold maxLen; omega) (by have := HC.out; omega) kaW.size _ rfl ?_; intro g3 cap3 w3 r3 gr3 _ _; simp only [Nat.zero_add, List.nil_append] at r3; have k3 : Below W.heap.size W w3 := kaW.grown gr3 kaW.size (fun b hb => by cases hb; exact Nat.le_refl _))
          | (refine step_append_lies _ (by rfl) _ _ _ (by rfl) W.heap.size 3 i0 (.int .i64 0) 1 8 Tryd.underlying29 hi hz0 hz1 hz2 rfl (by decide) (.slice (some ⟨w2.heap.size, 0, none⟩) 0 0) 0 [] (by rfl) (World.ownsRow_made w2 #[] 0 kaW.size (Nat.zero_le _) rfl) ⟨ga, 0, none⟩ i.codes.length ca (ints i.codes) (by rfl) (by simp [ints]) (ints_cells (ra.alloc _)) (ints_one _) (by have := HC.out; omega) (by have := HC.out; unfold maxLen; omega) (by have := HC.out; omega) (by have := kaW.size; simp; omega) _ rfl ?_; intro g3 cap3 w3 r3 gr3 _ _; simp only [Nat.zero_add, List.nil_append] at r3; have k3 : Below W.heap.size W w3 := (kaW.alloc kaW.size _).grown gr3 (by have := kaW.size; simp; omega) (fun b hb => by cases hb; exact kaW.size))
          | (refine step_append_lies _ (by rfl) _ _ _ (by rfl) W.heap.size 3 i0 (.int .i64 0) 1 8 Tryd.underlying29 hi hz0 hz1 hz2 rfl (by decide) (.slice (some ⟨g3, 0, none⟩) i.codes.length cap3) i.codes.length (ints i.codes) (by rfl) (row_below r3 kb) ⟨gb, 0, none⟩ j.codes.length cb (ints j.codes) (by rfl) (by simp [ints]) (ints_cells rb) (ints_one _) (by have := HC.out; omega) (by have := HC.out; unfold maxLen; omega) (by have := HC.out; omega) kbW.size _ rfl ?_; intro g5 cap5 w5 r5 gr5 _ _; have k5 : Below W.heap.size W w5 := kbW.grown gr5 kbW.size (fun b hb => (r3.lt b hb).1)))
      all_goals
        go_wp2
        go_ret
        exact ⟨_, rfl, by simpa [ints] using r5, k5⟩

end Go.Proofs.YtogninhgibbfnaaDoor
