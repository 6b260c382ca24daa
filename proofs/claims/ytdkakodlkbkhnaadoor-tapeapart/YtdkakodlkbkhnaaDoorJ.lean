/- Numbers, in one; the document's Numbers; Bits. -/
import Derived.Test.YtdkakodlkbkhnaaDoorI
namespace Go.Proofs.YtdkakodlkbkhnaaDoor
open Go.RowKit
set_option maxRecDepth 100000
attribute [local go_sem] not_any mf_any

theorem num_any (t b k : Nat) (n B : Int) (ws : List Nat) (w : World) (ht : Tp w t b k ws.length) (hr : w.heap[b]? = some (wrow ws)) (hs : Small ws) (hL : ws.length ≤ 1048576) :
    Calls Tryd.prog 21 #[.pointer (some ⟨t, 0, none⟩), .int .i64 n, .int .i64 B] w (NumPost w t b k n B ws) := by
  by_cases hB : 1 ≤ B ∧ B ≤ 64
  · obtain ⟨m, rfl⟩ : ∃ m : Nat, B = m := ⟨B.toNat, by omega⟩
    exact num_good t b k n m ws w ht hr hs hL (by omega)
  · exact num_shape t b k n B ws w ht hB

def RNumPost (w : World) (s : Value) (k : Nat) (n B : Int) (ws : List Nat) (e : Ending) (w' : World) : Prop :=
  ∃ a m c, e = .returned (.tuple #[.agg #[s, .int .i64 (numK n B k ws.length : Nat)], .slice a m c, .int .i64 (numC n B k ws.length)]) ∧ Ow w' w.heap.size m a (numL n B k ws) ∧ Below w.heap.size w w'

set_option maxHeartbeats 1000000 in
theorem rnum_shape (a : Option Addr) (L c k : Nat) (n B : Int) (ws : List Nat) (w : World) (hB : ¬ (1 ≤ B ∧ B ≤ 64)) :
    Calls Tryd.prog 22 #[.agg #[.slice a L c, .int .i64 (k : Int)], .int .i64 n, .int .i64 B] w (RNumPost w (.slice a L c) k n B ws) := by
  have HP : Shy (numC n B k ws.length = 11 ∧ numK n B k ws.length = k ∧ numL n B k ws = []) := ⟨by simp only [numC, numK, numL, if_neg hB, and_self]⟩
  by_cases h1 : B < 1
  · clear hB
    go_enter Tryd.func22, Tryd.ntmps22
    go_wp2
    exact ret_ctt Tryd.results22 (w.heap.size + 1) _ _ _ _ rfl rfl rfl (heap_alloc2_new _ _ _) rfl ⟨none, 0, 0, by rw [HP.out.1, HP.out.2.1]; rfl, by rw [HP.out.2.2]; exact Ow.nil _ _ _, ((Below.refl _ _).alloc (Nat.le_refl _) _).alloc (by simp) _⟩
  · have h2 : 64 < B := by omega
    clear hB
    go_enter Tryd.func22, Tryd.ntmps22
    go_wp2
    exact ret_ctt Tryd.results22 (w.heap.size + 1) _ _ _ _ rfl rfl rfl (heap_alloc2_new _ _ _) rfl ⟨none, 0, 0, by rw [HP.out.1, HP.out.2.1]; rfl, by rw [HP.out.2.2]; exact Ow.nil _ _ _, ((Below.refl _ _).alloc (Nat.le_refl _) _).alloc (by simp) _⟩

theorem takeL_len (n : Int) (k : Nat) (ws : List Nat) : (takeL n k ws).length ≤ ws.length := by
  unfold takeL
  split
  · simp
  · split
    · simp
    · simp; omega

set_option maxHeartbeats 4000000 in
theorem rnum_good (a : Option Addr) (c k : Nat) (n : Int) (B : Nat) (ws : List Nat) (w : World) (ha : Nl w ws.length a ws) (hc : ws.length ≤ c) (hk : k ≤ ws.length) (hs : Small ws) (hL : ws.length ≤ 1048576) (hB : 1 ≤ B ∧ B ≤ 64) :
    Calls Tryd.prog 22 #[.agg #[.slice a ws.length c, .int .i64 (k : Int)], .int .i64 n, .int .i64 (B : Int)] w (RNumPost w (.slice a ws.length c) k n B ws) := by
  have hB' : 1 ≤ (B : Int) ∧ (B : Int) ≤ 64 := by omega
  have HP : Shy (numC n B k ws.length = takeC n k ws.length ∧ numK n B k ws.length = takeK n k ws.length ∧ numL n B k ws = (takeL n k ws).map (cutN B)) := ⟨by simp only [numC, numK, numL, if_pos hB', and_self, Int.toNat_natCast]⟩
  have HK := fun (w' : World) (hb : Below w.heap.size w w') => hide1 (rtake_any a c k n ws w' (ha.next hb) hc hk hL)
  have HSm := hide1 (small_take hs n k)
  have HLen : Shy ((takeL n k ws).length ≤ 1048576) := ⟨Nat.le_trans (takeL_len n k ws) hL⟩
  have HB2 := hide1 hB.2
  obtain ⟨L, hLd⟩ : ∃ L, L = ws.length := ⟨_, rfl⟩
  rw [← hLd] at HK ⊢
  have HLd : Shy (ws.length = L) := ⟨hLd.symm⟩
  have HBW : Hid (Below w.heap.size w ((w.alloc (.cells #[.slice a L c, .int .i64 (k : Int)] 31)).alloc (.cells #[.slice none 0 0, .int .i64 0] 31))) := ((Below.refl _ _).alloc (Nat.le_refl _) _).alloc (by simp) _
  have HKW := HK _ HBW.out
  clear ha hc hk hs hL hLd HK
  obtain ⟨b1, b2⟩ := hB'
  have b1' : ¬ (B : Int) < 1 := by omega
  have b2' : ¬ 64 < (B : Int) := by omega
  go_enter Tryd.func22, Tryd.ntmps22
  go_wp2_with fail
  generalize hW : World.alloc (World.alloc w _) _ = W at *
  have w1 : W.heap[w.heap.size + 1]? = some (.cells #[.slice none 0 0, .int .i64 0] 31 (0, 0)) := by rw [← hW]; exact heap_alloc2_new _ _ _
  have wsz : W.heap.size = w.heap.size + 2 := by rw [← hW]; simp
  clear hW
  refine HKW.out.mono ?_
  rintro e W1 ⟨a6, m, c6, rfl, ho6, hb6⟩
  clear HKW
  have d1 := (hb6.block _ (lt_of_heap w1)).trans w1
  have hlm := ho6.len
  rw [HLd.out]
  obtain ⟨k', hk'⟩ : ∃ k', k' = takeK n k L := ⟨_, rfl⟩
  obtain ⟨e', he'⟩ : ∃ e', e' = takeC n k L := ⟨_, rfl⟩
  rw [← hk', ← he']
  have HKE : Shy (k' = takeK n k L ∧ e' = takeC n k L) := ⟨hk', he'⟩
  generalize takeL n k ws = l at *
  have Hlm : Shy (m ≤ 1048576) := ⟨by have := HLen.out; omega⟩
  have Hsz : Shy (l.length = m) := ⟨hlm⟩
  have HO6 := hide1 ho6
  have HB6 := hide1 hb6
  have D1 := hide1 d1
  have WSZ : Shy (W.heap.size = w.heap.size + 2) := ⟨wsz⟩
  clear hk' he' ho6 hb6 hlm d1 w1 wsz
  go_wp2
  generalize hX : World.alloc W1 _ = X
  have x9 : X.heap[W1.heap.size]? = some (.cells #[.slice a L c, .int .i64 (k' : Int)] 31 (0, 0)) := by rw [← hX]; exact World.alloc_heap_new W1 _
  have xb : Below W1.heap.size W1 X := by rw [← hX]; exact (Below.refl _ _).alloc (Nat.le_refl _) _
  have xo : Ow X (w.heap.size + 2) m a6 l := by rw [← WSZ.out]; exact HO6.out.next xb
  have X9 := hide1 x9
  have XB := hide1 xb
  have XO := hide1 xo
  obtain ⟨b9, hb9⟩ : ∃ v, v = W1.heap.size := ⟨_, rfl⟩
  rw [← hb9] at X9 ⊢
  have HG9 : Hid (∀ g, a6 = some ⟨g, 0, none⟩ → 0 < m → g ≠ b9) := by
    intro g hg hm
    rcases HO6.out.at' with h0 | ⟨g', h1, _, h3⟩
    · omega
    · rw [hg] at h1
      cases h1
      have := h3.lt
      omega
  have Hb9 : Shy (b9 = W1.heap.size) := ⟨hb9⟩
  clear hX x9 xb xo HO6 hb9
  go_loopw [12] (fun i wr => ∃ j : Nat, j ≤ m ∧ i = .int .i64 (j : Int) ∧ Ow wr (w.heap.size + 2) m a6 (cutTo B j l) ∧ wr.heap[b9]? = some (.cells #[.slice a L c, .int .i64 (k' : Int)] 31 (0, 0)) ∧ Below (w.heap.size + 2) X wr) (fun i _ => m - (intOf i).toNat)
  case atStart => exact ⟨0, Nat.zero_le _, rfl, by rw [cutTo_zero]; exact XO.out, X9.out, Below.refl _ _⟩
  case round =>
    obtain ⟨j, hj, rfl, hrow, h9, hbe⟩ := hrel
    have hmi := Hlm.out
    by_cases hlt : j < m
    · obtain ⟨g, rfl, hg, hcl, hf⟩ := hrow.get hlt
      rw [cutTo_at (by rw [Hsz.out]; exact hlt)] at hcl
      have Hne := hide1 (HG9.out g rfl (by omega))
      have HR := hide1 hrow
      have HE := hide1 hbe
      have Hg := hide1 hg
      have H9 := hide1 h9
      have HST : Shy ((cutTo B j l).set j (cutN B (at0 l j)) = cutTo B (j + 1) l) := ⟨cutTo_step (by rw [Hsz.out]; exact hlt)⟩
      have hcutc := fun w => hide1 (rcut_any (at0 l j) B w (HSm.out.at0 j) HB2.out)
      generalize at0 l j = x at *
      generalize cutN B x = y at *
      clear hrow hbe hg h9
      go_wp2_with (first | (go_at_call 32; refine (hcutc _).out.mono ?_; rintro e w' ⟨rfl, rfl⟩))
      go_roundw
      case rel => exact ⟨j + 1, by omega, by go_num, by rw [← HST.out]; exact HR.out.set j _, by rw [Below.heap_setCell _ _ _ _ (fun h => Hne.out h.symm)]; exact H9.out, HE.out.setCell Hg.out _⟩
      case measure => simp [intOf]; omega
    · have : j = m := by omega
      subst this
      have d1 := (hbe.block (w.heap.size + 1) (by omega)).trans ((XB.out.block _ (lt_of_heap D1.out)).trans D1.out)
      obtain ⟨q1, q2, q3, q4⟩ := box2 d1
      obtain ⟨r1, r2, _, _⟩ := box2 h9
      have D2 := hide1 d1
      have HR := hide1 hrow
      have HE := hide1 hbe
      clear hrow hbe h9 d1
      go_wp2
      refine ret_ctt Tryd.results22 (w.heap.size + 1) _ _ _ _ rfl rfl rfl (set2 D2.out _ _) rfl ⟨a6, j, c6, by rw [HP.out.1, HP.out.2.1, HLd.out, HKE.out.1, HKE.out.2]; rfl, ?_, ?_⟩
      · rw [HP.out.2.2, ← cutTo_all, Hsz.out]
        exact (HR.out.kp (((Kp.refl (fun j _ => j = w.heap.size + 1) wr).setCell ⟨w.heap.size + 1, 0, none⟩ (fun _ _ => rfl) _).setCell ⟨w.heap.size + 1, 1, none⟩ (fun _ _ => rfl) _) (fun j o hj => by rw [hj]; omega)).mono (by omega)
      · have hz := WSZ.out
        have h61 := HB6.out
        have hs1 := HB6.out.size
        have B1 : Below w.heap.size w X := HBW.out.trans ((HB6.out.mono (by omega)).trans (XB.out.mono (by omega)))
        exact ((B1.trans (HE.out.mono (by omega))).setCell (by show w.heap.size ≤ w.heap.size + 1; omega) _).setCell (by show w.heap.size ≤ w.heap.size + 1; omega) _

theorem rnum_any (a : Option Addr) (c k : Nat) (n B : Int) (ws : List Nat) (w : World) (ha : Nl w ws.length a ws) (hc : ws.length ≤ c) (hk : k ≤ ws.length) (hs : Small ws) (hL : ws.length ≤ 1048576) :
    Calls Tryd.prog 22 #[.agg #[.slice a ws.length c, .int .i64 (k : Int)], .int .i64 n, .int .i64 B] w (RNumPost w (.slice a ws.length c) k n B ws) := by
  by_cases hB : 1 ≤ B ∧ B ≤ 64
  · obtain ⟨m, rfl⟩ : ∃ m : Nat, B = m := ⟨B.toNat, by omega⟩
    exact rnum_good a c k n m ws w ha hc hk hs hL (by omega)
  · exact rnum_shape a ws.length c k n B ws w hB

end Go.Proofs.YtdkakodlkbkhnaaDoor
