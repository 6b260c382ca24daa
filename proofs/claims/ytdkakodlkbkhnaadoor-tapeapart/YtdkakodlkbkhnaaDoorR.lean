/- Every call of both tapes; TapePlays. -/
import Derived.Test.YtdkakodlkbkhnaaDoorPe
namespace Go.Proofs.YtdkakodlkbkhnaaDoor
open Go.RowKit
set_option maxRecDepth 100000
attribute [local go_sem] not_any mf_any

/- how far a tape is read behind a call: it hangs on the call, and on how long the tape is and how far it was read -/
def doK (kd n B : Int) (k L : Nat) : Nat :=
  if kd = 0 then takeK n k L else if kd = 1 then takeK 1 k L else if kd = 2 then numK n B k L else if kd = 3 then takeK n k L else if kd = 4 then takeK 4 k L else skipK n k L

theorem does_any (w0 w : World) (t b rb k c L : Nat) (a : Option Addr) (ws : List Nat) (kd n B : Int) (D : Dz w0 w t b rb k c L a ws) :
    Calls Tryd.prog 9 #[.pointer (some ⟨t, 0, none⟩), .pointer (some ⟨rb, 0, none⟩), .agg #[.int .i64 kd, .int .i64 n, .int .i64 B]] w (DoPost w0 w t b rb (doK kd n B k L) c L a ws) := by
  unfold doK
  by_cases h0 : kd = 0
  · subst h0; rw [if_pos rfl]; exact does0 w0 w t b rb k c L a ws n B D
  rw [if_neg h0]
  by_cases h1 : kd = 1
  · subst h1; rw [if_pos rfl]; exact does1 w0 w t b rb k c L a ws n B D
  rw [if_neg h1]
  by_cases h2 : kd = 2
  · subst h2; rw [if_pos rfl]; exact does2 w0 w t b rb k c L a ws n B D
  rw [if_neg h2]
  by_cases h3 : kd = 3
  · subst h3; rw [if_pos rfl]; exact does3 w0 w t b rb k c L a ws n B D
  rw [if_neg h3]
  by_cases h4 : kd = 4
  · subst h4; rw [if_pos rfl]; exact does4 w0 w t b rb k c L a ws n B D
  rw [if_neg h4]
  exact does5 w0 w t b rb k c L a ws kd n B D ⟨by simpa using h0, by simpa using h1, by simpa using h2, by simpa using h3, by simpa using h4⟩

/- calls in memory, to be read -/
structure Ac (w : World) (m : Nat) (a : Option Addr) (l : List (Int × Int × Int)) : Prop where
  len : l.length = m
  at' : ∀ (j : Nat) (x : Int × Int × Int), l[j]? = some x → ∃ g o, a = some ⟨g, o, none⟩ ∧ w.cell? ⟨g, o + j * 3, none⟩ = some (.int .i64 x.1) ∧ w.cell? ⟨g, o + j * 3 + 1, none⟩ = some (.int .i64 x.2.1) ∧ w.cell? ⟨g, o + j * 3 + 2, none⟩ = some (.int .i64 x.2.2)
theorem Ac.next {w w' : World} {m : Nat} {a : Option Addr} {l : List (Int × Int × Int)} (h : Ac w m a l) (hB : Below w.heap.size w w') : Ac w' m a l :=
  ⟨h.len, fun j x hj => by
    obtain ⟨g, o, h1, h2, h3, h4⟩ := h.at' j x hj
    have hg := ltc h2
    exact ⟨g, o, h1, (hB.cell (p := ⟨g, o + j * 3, none⟩) hg).trans h2, (hB.cell (p := ⟨g, o + j * 3 + 1, none⟩) hg).trans h3, (hB.cell (p := ⟨g, o + j * 3 + 2, none⟩) hg).trans h4⟩⟩
theorem Ac.val {w : World} {m : Nat} {a : Option Addr} {l : List (Int × Int × Int)} (h : Ac w m a l) {j : Nat} (hj : j < m) : ∃ g o x y z, a = some ⟨g, o, none⟩ ∧ w.cell? ⟨g, o + j * 3, none⟩ = some (.int .i64 x) ∧ w.cell? ⟨g, o + j * 3 + 1, none⟩ = some (.int .i64 y) ∧ w.cell? ⟨g, o + j * 3 + 2, none⟩ = some (.int .i64 z) := by
  obtain ⟨x, hx⟩ : ∃ x, l[j]? = some x := ⟨_, List.getElem?_eq_getElem (by rw [h.len]; exact hj)⟩
  obtain ⟨g, o, h1, h2, h3, h4⟩ := h.at' j x hx
  exact ⟨g, o, _, _, _, h1, h2, h3, h4⟩

theorem plays_long (w : World) (L c m ca : Nat) (a aa : Option Addr) (he : Et w) (hL : 500 < L) :
    Calls Tryd.prog 3 #[.slice a L c, .slice aa m ca] w fun e w' => e = .returned (.bool true) ∧ Below w.heap.size w w' := by
  have HA := hide1 (awake_any w he)
  have h1 : (500 : Int) < (L : Int) := by omega
  clear he
  go_enter Tryd.func3, Tryd.ntmps3
  go_wp2_with fail
  refine HA.out.mono ?_
  rintro e w1 ⟨rfl, hb⟩
  go_wp2
  go_ret
  exact ⟨rfl, hb⟩

set_option maxHeartbeats 4000000 in
theorem plays_short (w : World) (L c m ca : Nat) (a aa : Option Addr) (ws : List Nat) (l : List (Int × Int × Int)) (he : Et w) (ha : Nl w L a ws) (hs : Small ws) (hc : L ≤ c) (hl : Ac w m aa l) (hL : L ≤ 500) :
    Calls Tryd.prog 3 #[.slice a L c, .slice aa m ca] w fun e w' => e = .returned (.bool true) ∧ Below w.heap.size w w' := by
  have HN := hide1 (new_tape w L c a ws ha (by omega))
  have H := hide1 (And.intro he (And.intro ha (And.intro hs (And.intro hc (And.intro hl hL)))))
  have h1 : ¬ (500 : Int) < (L : Int) := by omega
  clear he ha hs hc hl
  go_enter Tryd.func3, Tryd.ntmps3
  go_wp2_with fail
  refine HN.out.mono ?_
  rintro e W1 ⟨t, b, rfl, hb1, hbt, hT1, hr1, hB1⟩
  have F1 := hide1 (And.intro hb1 (And.intro hbt (And.intro hT1 (And.intro hr1 hB1))))
  clear hb1 hbt hT1 hr1 hB1 HN
  go_wp2
  generalize hX : World.alloc W1 _ = X
  have xr : X.heap[W1.heap.size]? = some (.cells #[.slice a L c, .int .i64 ((0 : Nat) : Int)] 31 (0, 0)) := by rw [← hX]; exact World.alloc_heap_new W1 _
  have xb : Below W1.heap.size W1 X := by rw [← hX]; exact (Below.refl _ _).alloc (Nat.le_refl _) _
  obtain ⟨rb, hrb⟩ : ∃ rb, W1.heap.size = rb := ⟨_, rfl⟩
  have hD : Dz w X t b rb 0 c L a ws := by
    obtain ⟨f1, f2, f3, f4, f5⟩ := F1.out
    obtain ⟨he, ha, hs, hc, hl, hL⟩ := H.out
    have htl := f3.lt
    have hbl := lt_of_heap f4
    have := f5.size
    rw [ha.len] at f3
    refine ⟨ha.len, f3.below xb htl, (xb.block _ hbl).trans f4, by rw [← hrb]; exact xr, ha, hc, hs, by omega, f5.trans (xb.mono f5.size), he, ?_, ?_⟩
    · omega
    · omega
  rw [hrb]
  have HDX := hide1 hD
  clear hX xr xb hrb hD F1
  go_loopw [8] (fun i wr => ∃ j k : Nat, j ≤ m ∧ j ≤ 60 ∧ i = .int .i64 (j : Int) ∧ Dz w wr t b rb k c L a ws) (fun i _ => 60 - (intOf i).toNat)
  case atStart => exact ⟨0, 0, Nat.zero_le _, Nat.zero_le _, rfl, HDX.out⟩
  case round =>
    obtain ⟨j, k, hj, hj6, rfl, hD⟩ := hrel
    by_cases hend : j < m ∧ j < 60
    · obtain ⟨hjm, hj60⟩ := hend
      have hj60i : (j : Int) < 60 := by omega
      obtain ⟨g, o, x, y, z, rfl, c1, c2, c3⟩ := (H.out.2.2.2.2.1.next hD.bl).val hjm
      have HK := hide1 (does_any w wr t b rb k c L a ws x y z hD)
      clear hD HDX
      go_wp2_with fail
      refine HK.out.mono ?_
      rintro e w1 ⟨rfl, hD1, _⟩
      generalize doK x y z k L = k1 at hD1
      have HD1 := hide1 hD1
      clear hD1 HK c1 c2 c3
      go_wp2
      exact ⟨⟨j + 1, k1, by omega, by omega, by go_num, HD1.out⟩, by simp [intOf]; omega⟩
    · have HA := hide1 (awake_any wr (H.out.1.below hD.bl H.out.1.pos))
      have HB := hide1 hD.bl
      clear hD HDX
      by_cases h60 : j < 60
      · have hjm : j = m := by omega
        subst hjm
        have hj60i : (j : Int) < 60 := by omega
        clear hend
        go_wp2_with fail
        refine HA.out.mono ?_
        rintro e w1 ⟨rfl, hb⟩
        have HB1 := hide1 (HB.out.trans (hb.mono HB.out.size))
        clear hb
        go_wp2
        go_ret
        exact ⟨rfl, HB1.out⟩
      · have : j = 60 := by omega
        subst this
        rw [show ((60 : Nat) : Int) = 60 from rfl]
        clear hend h60 hj6
        by_cases hm : (60 : Int) < (m : Int)
        · go_wp2_with fail
          refine HA.out.mono ?_
          rintro e w1 ⟨rfl, hb⟩
          have HB1 := hide1 (HB.out.trans (hb.mono HB.out.size))
          clear hb
          go_wp2
          go_ret
          exact ⟨rfl, HB1.out⟩
        · have hm0 : m = 60 := by omega
          subst hm0
          go_wp2_with fail
          refine HA.out.mono ?_
          rintro e w1 ⟨rfl, hb⟩
          have HB1 := hide1 (HB.out.trans (hb.mono HB.out.size))
          clear hb
          go_wp2
          go_ret
          exact ⟨rfl, HB1.out⟩

theorem plays_all (w : World) (L c m ca : Nat) (a aa : Option Addr) (ws : List Nat) (l : List (Int × Int × Int)) (he : Et w) (ha : Nl w L a ws) (hs : Small ws) (hc : L ≤ c) (hl : Ac w m aa l) :
    Calls Tryd.prog 3 #[.slice a L c, .slice aa m ca] w fun e w' => e = .returned (.bool true) ∧ Below w.heap.size w w' := by
  by_cases hL : L ≤ 500
  · exact plays_short w L c m ca a aa ws l he ha hs hc hl hL
  · exact plays_long w L c m ca a aa he (by omega)

end Go.Proofs.YtdkakodlkbkhnaaDoor
