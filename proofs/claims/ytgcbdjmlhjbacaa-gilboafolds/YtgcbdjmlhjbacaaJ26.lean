/- Choices of both. -/
import Derived.Test.YtgcbdjmlhjbacaaJ25
namespace Go.Proofs.Ytgcbdjmlhjbacaa.Gi
open Go.RowKit Ri
set_option maxRecDepth 100000
attribute [local go_sem] Ri.not_any Ri.mf_any

def chF (L : Nat) (l : List Nat) (t : Nat) : Bool := bitAt (at0 l (t / L)) (t % L)
theorem make_emptyB (m : Nat) (hm : m ≤ 4194304) (w : World) : (Instr.makeSlice 29 (.int .i64 0) (.int .i64 (m : Int))).run Try.prog w = .ok (.slice (some ⟨w.heap.size, 0, none⟩) 0 m) (w.alloc (brow (List.replicate m false))) := by
  have hi : (Try.prog.info? 4).map (fun i => (i.zero, i.size, i.bytes)) = some (some (.bool false), 1, 1) := by kernel_rfl
  obtain ⟨i0, hi, hz0, hz1, hz2⟩ := info_parts hi
  have h := run_make (P := Try.prog) w 29 4 i0 _ Try.underlying29 hi hz0 .i64 .i64 (0 : Int) (m : Int) (by omega) (by omega) (by rw [hz2]; omega) (by omega)
  rw [h, hz1]
  have e : madeCells (Value.bool false).cells ((m : Int).toNat * 1) = (bools (List.replicate m false)).toArray := by
    apply Array.ext
    · simp [madeCells, bools]
    · intro j h1 h2
      simp [madeCells, bools, Value.cells, Nat.mod_one]
  rw [e]
  rfl
theorem bo_made {w : World} {B g m : Nat} (hB : B ≤ g) (hm : m ≤ 4194304) (h : w.heap[g]? = some (brow (List.replicate m false))) : Bo B w (.slice (some ⟨g, 0, none⟩) 0 m) [] :=
  ⟨rfl, .inr ⟨g, m, _, rfl, hB, h, Nat.zero_le _, by unfold maxLen; omega, by simp [bools], by simp [bools]⟩⟩
theorem bl_row {w : World} {g : Nat} {l : List Bool} (h : w.heap[g]? = some (brow l)) : T.Bl w l.length (some ⟨g, 0, none⟩) l :=
  ⟨rfl, fun j x hj => ⟨g, 0, rfl, by rw [Nat.zero_add]; exact brow_cell h hj⟩⟩
theorem grow_belowB {w W X w' : World} {v : Value} {A : List Bool} {B : Nat} (hBB : w.heap.size ≤ B) (hB : Below w.heap.size w W) (hX : Below W.heap.size W X) (h : Bo B W v A) (hg : X.grownBy w' v.ownBlock) : Below w.heap.size w w' :=
  (hB.trans (hX.mono hB.size)).grown hg (Nat.le_trans hB.size hX.size) (fun _ hk => Nat.le_trans hBB (h.lt hk).1)
theorem new_truth (w : World) (x : Bool) : T.Bl (w.alloc (.cells #[.bool x] 4)) 1 (some ⟨w.heap.size, 0, none⟩) [x] := one_Bo (heap_alloc_new _ _)
theorem bit_eq (x k : Nat) : (((x : Int) / 2 ^ k).tmod 2 == 1) = bitAt x k := by
  rw [bit_int, bitAt]
  by_cases h : x / 2 ^ k % 2 = 1
  · rw [h]; rfl
  · rw [show x / 2 ^ k % 2 = 0 by omega]; rfl

set_option maxHeartbeats 8000000 in
theorem rchoices_good (L m c : Nat) (a : Option Addr) (l : List Nat) (w : World) (h1 : 1 ≤ L) (h2 : L ≤ 64) (hmx : m ≤ 4096) (ha : Nl w m a l) (hs : Small l) (hf : fitsAll (L : Int) l = true) :
    Calls Try.prog 8 #[.int .i64 (L : Int), .slice a m c] w fun e w' => ∃ a1 c1, e = .returned (.tuple #[.slice a1 (m * L) c1, .int .i64 0]) ∧ T.Bl w' (m * L) a1 (tl (chF L l) (m * L)) ∧ Below w.heap.size w w' := by
  have HA := hide1 ha
  have kW := fun w => hide1 (wrong_any (L : Int) 1 w)
  rw [show bad (L : Int) 1 = false by unfold bad; rw [okW_of h1 h2]; rfl] at kW
  have kF := fun w ha => hide1 (rfits_any L w m c a l ha hs (by omega) h1 h2)
  rw [hf] at kF
  obtain ⟨F, hF⟩ : ∃ F, F = chF L l := ⟨_, rfl⟩
  have HF : Shy (∀ i k, k < L → F (i * L + k) = bitAt (at0 l i) k) := ⟨fun i k hk => by rw [hF, chF, place_div hk, place_mod hk]⟩
  have hS : m * L ≤ 4096 * 64 := Nat.mul_le_mul hmx h2
  rw [← hF]
  clear hF hf hs
  go_enter Try.func8, Try.ntmps8
  go_wp2_with fail
  go_at_call 18
  refine (kW _).out.mono ?_
  rintro e w0 ⟨rfl, he0⟩
  obtain rfl := he0.symm
  go_wp2_with fail
  go_at_call 29
  refine (kF _ ha).out.mono ?_
  rintro e w0 ⟨rfl, q0, hq0⟩
  have B0 : Hid (Below w.heap.size w w0) := by rw [hq0]; exact below_drewN (Below.refl _ _) q0
  clear hq0 ha kW kF
  go_wp2
  go_loopw [6, 7] (fun v6 v7 wr => ∃ i p : Nat, i ≤ m ∧ p = i * L ∧ v7 = .int .i64 i ∧ Bo w.heap.size wr v6 (tl F p) ∧ Below w.heap.size w wr) (fun _ v7 _ => m - (intOf v7).toNat)
  case atStart => exact ⟨0, 0, Nat.zero_le _, (Nat.zero_mul _).symm, rfl, Bo.nil _ _, B0.out⟩
  case round =>
    obtain ⟨i, p, hi, hp, rfl, ho, hbe⟩ := hrel
    obtain ⟨la, lc, rfl⟩ := ho.form
    by_cases hil : i < m
    · have HO := hide1 ho
      have HE := hide1 hbe
      have HP := hide1 hp
      have hiq : (i : Int) < (m : Int) := by omega
      clear ho hbe hp
      go_wp2
      go_loopw [6, 8] (fun v6 v8 wr => ∃ k p : Nat, k ≤ L ∧ p = i * L + k ∧ v8 = .int .i64 k ∧ Bo w.heap.size wr v6 (tl F p) ∧ Below w.heap.size w wr) (fun _ v8 _ => L - (intOf v8).toNat)
      case atStart => exact ⟨0, p, Nat.zero_le _, HP.out, rfl, HO.out, HE.out⟩
      case round =>
        clear HO HE HP
        obtain ⟨k, p, hk, hp, rfl, ho, hbe⟩ := hrel
        obtain ⟨la, lc, rfl⟩ := ho.form
        rw [tl_length] at ho
        rw [tl_length]
        by_cases hkl : k < L
        · obtain ⟨g, o, rfl, hc⟩ := (HA.out.below hbe (Nat.le_refl _)).val hil
          have hv := HF.out i k hkl
          rw [← hp] at hv
          have hpm : p + 1 ≤ 4194304 := by
            have t1 : i * L + k ≤ m * L := place_le hil hk
            rw [← hp] at t1
            omega
          obtain ⟨x, hx0⟩ : ∃ x, x = at0 l i := ⟨_, rfl⟩
          rw [← hx0] at hc hv
          have hb := bit_eq x k
          rw [← hv] at hb
          obtain ⟨v, hv0⟩ : ∃ v, v = F p := ⟨_, rfl⟩
          rw [← hv0] at hb
          have HV := hide1 hv0
          have HO := hide1 ho
          have HE := hide1 hbe
          have HP := hide1 hp
          clear ho hbe hp hv hx0 hv0
          go_wp2_with (first
            | (at_builtin; go_must (refine wpList_append_Bo rfl _ _ rfl (c := 1) (A := tl F p) (B := w.heap.size) rfl rfl (HO.out.below (below1 _)) (new_truth _ _) (by rw [tl_length]; omega) (by have := HE.out.size; rw [World.size_alloc]; omega) ?_); intro a' c' w8 ro8 gr8 wh8; have HX8 : Hid (Bo w.heap.size w8 (.slice a' ((tl F p).length + 1) c') (tl F p ++ [v]) ∧ Below w.heap.size w w8) := ⟨ro8, grow_belowB (Nat.le_refl _) HE.out (below1 _) HO.out gr8⟩; clear ro8 gr8 wh8; rw [tl_length] at HX8; rw [tl_length])
            | fail)
          rw [HV.out, ← tl_succ] at HX8
          go_roundw
          case rel => exact ⟨k + 1, p + 1, hkl, by rw [HP.out]; rfl, by go_num, HX8.out.1, HX8.out.2⟩
          case measure => simp [intOf]; omega
        · obtain rfl : k = L := by omega
          have HO := hide1 ho
          have HE := hide1 hbe
          have HP := hide1 hp
          clear ho hbe hp
          go_wp2
          go_roundw
          case rel => exact ⟨i + 1, p, hil, by rw [HP.out, ← Nat.succ_mul], by go_num, HO.out, HE.out⟩
          case measure => simp [intOf]; omega
    · obtain rfl : i = m := by omega
      have n1 := ho.rd
      rw [tl_length] at n1
      rw [tl_length]
      rw [hp] at n1 ⊢
      have HN := hide1 n1
      have HE := hide1 hbe
      clear n1 ho hbe hp
      go_wp2
      go_ret2
      exact ⟨_, _, rfl, HN.out, HE.out⟩

/- may numbers of so many bits be? -/
def okC (W : Int) (l : List Nat) : Bool := okW W && fitsAll W l
theorem rchoices_bad (W : Int) (m c : Nat) (a : Option Addr) (l : List Nat) (w : World) (hmx : m ≤ 4096) (ha : Nl w m a l) (hs : Small l) (ho : okC W l = false) :
    Calls Try.prog 8 #[.int .i64 W, .slice a m c] w fun e w' => e = .returned (.tuple #[.slice none 0 0, .int .i64 11]) ∧ Below w.heap.size w w' := by
  have kW := fun w => hide1 (wrong_any W 1 w)
  have HB := hide1 (Below.refl w.heap.size w)
  cases hW : okW W with
  | false =>
    rw [show bad W 1 = true by unfold bad; rw [hW]; rfl] at kW
    clear ho ha hs
    go_enter Try.func8, Try.ntmps8
    go_wp2_with (first | (go_at_call 18; refine (kW _).out.mono ?_; rintro e w' ⟨rfl, he0⟩; obtain rfl := he0.symm) | fail)
    go_ret2
    exact ⟨rfl, HB.out⟩
  | true =>
    rw [show bad W 1 = false by unfold bad; rw [hW]; rfl] at kW
    have hf : fitsAll W l = false := by
      unfold okC at ho
      rw [hW] at ho
      simpa using ho
    obtain ⟨L, rfl, h1, h2⟩ := okW_nat hW
    have kF := hide1 (rfits_any L w m c a l ha hs (by omega) h1 h2)
    rw [hf] at kF
    clear ho ha hs hf hW
    go_enter Try.func8, Try.ntmps8
    go_wp2_with (first | (go_at_call 18; refine (kW _).out.mono ?_; rintro e w' ⟨rfl, he0⟩; obtain rfl := he0.symm) | (go_at_call 29; refine kF.out.mono ?_; rintro e w' ⟨rfl, q, rfl⟩) | fail)
    go_ret2
    exact ⟨rfl, below_drewN (Below.refl _ _) q⟩

set_option maxHeartbeats 8000000 in
theorem choices_good (L m c : Nat) (a : Option Addr) (l : List Nat) (w : World) (h1 : 1 ≤ L) (h2 : L ≤ 64) (hmx : m ≤ 4096) (ha : Nl w m a l) (hs : Small l) (hf : fitsAll (L : Int) l = true) :
    Calls Try.prog 7 #[.int .i64 (L : Int), .slice a m c] w fun e w' => ∃ av, e = .returned (.tuple #[.agg #[.int .i64 ((m * L : Nat) : Int), .slice av (T.need (m * L) 64) (T.need (m * L) 64)], .int .i64 0]) ∧ T.Vc w.heap.size w' (m * L) av (tl (chF L l) (m * L)) ∧ Below w.heap.size w w' := by
  have HA := hide1 ha
  have kF : Hid (∀ X, Below w.heap.size w X → Calls Try.prog 25 #[.int .i64 (L : Int), .slice a m c] X fun e w' => e = .returned (.bool true) ∧ ∃ q, w' = X.drewN q) := fun X hX => by
    have h := are_any (L : Int) X m c a l (ha.below hX (Nat.le_refl _)) hs (by omega)
    rw [okW_of h1 h2, hf] at h
    exact h
  obtain ⟨F, hF⟩ : ∃ F, F = chF L l := ⟨_, rfl⟩
  have HF : Shy (∀ i, tl (bitAt (at0 l i)) L = tl (fun j => F (i * L + j)) L) := ⟨fun i => tl_congr fun j hj => by rw [hF, chF, place_div hj, place_mod hj]⟩
  have hS : m * L ≤ 4096 * 64 := Nat.mul_le_mul hmx h2
  obtain ⟨Q, hQ⟩ : ∃ Q, Q = m * L := ⟨_, rfl⟩
  have e1 : IntKind.i64.wrap ((L : Int) * (m : Int)) = (Q : Int) := by rw [← Int.natCast_mul, Nat.mul_comm, ← hQ, wrap_i64_nat (by omega)]
  have hmk := make_emptyB Q (by omega)
  rw [← hQ] at hS
  have HQ := hide1 hQ
  rw [← hF, ← hQ]
  clear ha hF hQ
  go_enter Try.func7, Try.ntmps7
  go_wp2_with fail
  go_at_call 25
  refine (kF.out _ (below1 _)).mono ?_
  rintro e w1 ⟨rfl, q1, hq1⟩
  have b4 : w1.heap[w.heap.size]? = some (.cells #[.int .i64 0, .slice none 0 0] 25 (0, 0)) := by rw [hq1]; exact heap_alloc_new _ _
  have B1 : Below w.heap.size w w1 := by rw [hq1]; exact below_drewN (below1 _) q1
  have s1 : w.heap.size + 1 ≤ w1.heap.size := by rw [hq1]; simp
  clear hq1 kF
  go_wp2_with fail
  go_at_call 26
  refine (T.new_any Q w1 (by omega)).mono ?_
  rintro e w2 ⟨av0, rfl, _, hb2⟩
  go_upto_region 6 with (fail)
  generalize hW3 : World.alloc w2 _ = W3
  have b43 : W3.heap[w.heap.size]? = some (.cells #[.int .i64 0, .slice none 0 0] 25 (0, 0)) := by
    rw [← hW3]
    exact (Below.heap_alloc _ _ _ (Nat.lt_of_lt_of_le s1 hb2.size)).trans ((hb2.block _ s1).trans b4)
  have B3 : Below w.heap.size w W3 := by
    rw [← hW3]
    exact (B1.trans (hb2.mono B1.size)).alloc (Nat.le_trans B1.size hb2.size) _
  have s3 : w.heap.size + 1 ≤ W3.heap.size := by
    have := hb2.size
    rw [← hW3, World.size_alloc]
    omega
  clear hW3 b4 B1 s1 hb2
  go_wp2
  clear hmk
  have W0 : Hid (Bo (w.heap.size + 1) (W3.alloc (brow (List.replicate Q false))) (.slice (some ⟨W3.heap.size, 0, none⟩) 0 Q) []) := bo_made s3 (by omega) (heap_alloc_new _ _)
  have R0 : Hid ((W3.alloc (brow (List.replicate Q false))).heap[w.heap.size]? = some (.cells #[.int .i64 0, .slice none 0 0] 25 (0, 0))) := (Below.heap_alloc _ _ _ s3).trans b43
  have E0 : Hid (Below w.heap.size w (W3.alloc (brow (List.replicate Q false)))) := B3.alloc B3.size _
  have S0 : Hid (w.heap.size + 1 ≤ (W3.alloc (brow (List.replicate Q false))).heap.size) := by
    show _ ≤ _
    rw [World.size_alloc]
    omega
  clear b43 B3 s3
  go_loopw [8, 35] (fun v8 v35 wr => ∃ i p : Nat, i ≤ m ∧ p = i * L ∧ v35 = .int .i64 i ∧ Bo (w.heap.size + 1) wr v8 (tl F p) ∧ Below w.heap.size w wr ∧ wr.heap[w.heap.size]? = some (.cells #[.int .i64 0, .slice none 0 0] 25 (0, 0)) ∧ w.heap.size + 1 ≤ wr.heap.size) (fun _ v35 _ => m - (intOf v35).toNat)
  case atStart => exact ⟨0, 0, Nat.zero_le _, (Nat.zero_mul _).symm, rfl, W0.out, E0.out, R0.out, S0.out⟩
  case round =>
    clear W0 R0 E0 S0
    obtain ⟨i, p, hi, hp, rfl, ho, hbe, hb4, hsz⟩ := hrel
    obtain ⟨la, lc, rfl⟩ := ho.form
    rw [tl_length] at ho
    rw [tl_length]
    by_cases hil : i < m
    · have hq : p + L ≤ Q := by rw [HQ.out, hp, ← Nat.succ_mul]; exact Nat.mul_le_mul_right L hil
      obtain ⟨g, o, rfl, hc⟩ := (HA.out.below hbe (Nat.le_refl _)).val hil
      have hrow := HF.out i
      rw [← hp] at hrow
      obtain ⟨x, hx⟩ : ∃ x, x = at0 l i := ⟨_, rfl⟩
      have hxs := small_at hs i
      rw [← hx] at hc hrow hxs
      have kB := hide1 (bits_any L x wr h1 h2 hxs)
      have HO := hide1 ho
      have HE := hide1 hbe
      have HP := hide1 hp
      have HR := hide1 hrow
      have H4 := hide1 hb4
      have HZ := hide1 (And.intro hq hsz)
      clear ho hbe hp hrow hb4 hsz hq hx hxs
      go_wp2_with (first
        | (go_at_call 27; refine kB.out.mono ?_; rintro e W1 ⟨rfl, hr1, hb1⟩; have NR := bl_row hr1; rw [told_length, told_tl, HR.out] at NR; have HB1 := hide1 hb1; clear hb1 hr1)
        | (at_builtin; go_must (refine wpList_append_Bo rfl _ _ rfl (c := L) (A := tl F p) (B := w.heap.size + 1) rfl rfl (HO.out.below HB1.out) NR (by have := HZ.out; rw [tl_length]; omega) (by have := HZ.out; have := HB1.out.size; omega) ?_); intro a' c' w8 ro8 gr8 wh8; have HX8 : Hid (Bo (w.heap.size + 1) w8 (.slice a' ((tl F p).length + L) c') (tl F p ++ tl (fun j => F (p + j)) L) ∧ Below w.heap.size w w8 ∧ w8.heap[w.heap.size]? = some (.cells #[.int .i64 0, .slice none 0 0] 25 (0, 0)) ∧ w.heap.size + 1 ≤ w8.heap.size) := ⟨ro8, grow_belowB (Nat.le_succ _) HE.out HB1.out HO.out gr8, (gr8.block _ (by have := HZ.out; have := HB1.out.size; omega) (fun e => by have := (HO.out.lt e.symm).1; omega)).trans ((HB1.out.block _ (by have := HZ.out; omega)).trans H4.out), by have := HZ.out; have := HB1.out.size; have := gr8.size; omega⟩; clear ro8 gr8 wh8; rw [tl_length] at HX8; rw [tl_length])
        | fail)
      rw [← tl_add] at HX8
      go_roundw
      case rel => exact ⟨i + 1, p + L, hil, by rw [HP.out, Nat.succ_mul], by go_num, HX8.out⟩
      case measure => simp [intOf]; omega
    · obtain rfl : i = m := by omega
      have n1 := ho.rd
      rw [hp, ← HQ.out] at n1
      rw [hp, ← HQ.out]
      have HN := hide1 n1
      have HE := hide1 hbe
      have H4 := hide1 hb4
      have HZ := hide1 hsz
      clear n1 ho hbe hp hb4 hsz
      go_wp2_with fail
      go_at_call 28
      refine (T.of_any wr Q lc la _ HN.out (by omega)).mono ?_
      rintro e w5 ⟨av, rfl, hv, hb5⟩
      have b45 := (hb5.block _ HZ.out).trans H4.out
      have HV := hide1 hv
      have HB5 := hide1 hb5
      obtain ⟨c0, c1, f0, f1, l0⟩ := T.box2 b45
      clear hv hb5
      go_wp2
      have hbb : Below w.heap.size w ((w5.setCell ⟨w.heap.size, 0, none⟩ (.int .i64 (Q : Int))).setCell ⟨w.heap.size, 1, none⟩ (.slice av (T.need Q 64) (T.need Q 64))) := ((HE.out.trans (HB5.out.mono HE.out.size)).setCell (Nat.le_refl _) _).setCell (Nat.le_refl _) _
      exact T.ret_vec2 Try.results7 w.heap.size _ _ _ rfl rfl (T.set_box2 b45) rfl ⟨_, rfl, ((HV.out.setCell (p := ⟨w.heap.size, 0, none⟩) HZ.out _).setCell (p := ⟨w.heap.size, 1, none⟩) HZ.out _).mono HE.out.size, hbb⟩

theorem choices_bad (W : Int) (m c : Nat) (a : Option Addr) (l : List Nat) (w : World) (hmx : m ≤ 4096) (ha : Nl w m a l) (hs : Small l) (ho : okC W l = false) :
    Calls Try.prog 7 #[.int .i64 W, .slice a m c] w fun e w' => e = .returned (.tuple #[.agg #[.int .i64 0, .slice none 0 0], .int .i64 11]) ∧ Below w.heap.size w w' := by
  have kF : Hid (∀ X, Below w.heap.size w X → Calls Try.prog 25 #[.int .i64 W, .slice a m c] X fun e w' => e = .returned (.bool false) ∧ ∃ q, w' = X.drewN q) := fun X hX => by
    have h := are_any W X m c a l (ha.below hX (Nat.le_refl _)) hs (by omega)
    unfold okC at ho
    rw [ho] at h
    exact h
  clear ho ha hs
  go_enter Try.func7, Try.ntmps7
  go_wp2_with fail
  go_at_call 25
  refine (kF.out _ (below1 _)).mono ?_
  rintro e w1 ⟨rfl, q1, hq1⟩
  have b4 : w1.heap[w.heap.size]? = some (.cells #[.int .i64 0, .slice none 0 0] 25 (0, 0)) := by rw [hq1]; exact heap_alloc_new _ _
  have B1 := hide1 (show Below w.heap.size w w1 by rw [hq1]; exact below_drewN (below1 _) q1)
  obtain ⟨c0, c1, f0, f1, l0⟩ := T.box2 b4
  clear hq1 kF
  go_wp2
  exact T.ret_vec2 Try.results7 w.heap.size _ _ _ rfl rfl (T.set_box2 b4) rfl ⟨rfl, (B1.out.setCell (Nat.le_refl _) _).setCell (Nat.le_refl _) _⟩

/- what both tell -/
def chL (W : Int) (m : Nat) (l : List Nat) : List Bool := tl (chF W.toNat l) (m * W.toNat)
/- bits, or why there are none -/
def VPost (ok : Bool) (l : List Bool) (w : World) (e : Ending) (w' : World) : Prop :=
  ∃ (n : Nat) (av : Option Addr), e = .returned (.tuple #[.agg #[.int .i64 (n : Int), .slice av (T.need n 64) (T.need n 64)], .int .i64 (cod ok)]) ∧ T.Vc 0 w' n av (if ok then l else []) ∧ n ≤ 262144 ∧ Below w.heap.size w w'
def BPost (ok : Bool) (l : List Bool) (w : World) (e : Ending) (w' : World) : Prop :=
  ∃ a1 k1 c1, e = .returned (.tuple #[.slice a1 k1 c1, .int .i64 (cod ok)]) ∧ T.Bl w' k1 a1 (if ok then l else []) ∧ k1 ≤ 262144 ∧ Below w.heap.size w w'
theorem okC_yes {W : Int} {l : List Nat} (h : okC W l = true) : okW W = true ∧ fitsAll W l = true := by
  unfold okC at h
  simpa using h
theorem choices_any (W : Int) (m c : Nat) (a : Option Addr) (l : List Nat) (w : World) (hmx : m ≤ 4096) (ha : Nl w m a l) (hs : Small l) :
    Calls Try.prog 7 #[.int .i64 W, .slice a m c] w (VPost (okC W l) (chL W m l) w) := by
  cases ho : okC W l with
  | false => exact (choices_bad W m c a l w hmx ha hs ho).mono fun e w' ⟨he, hb⟩ => ⟨0, none, he, T.nil_at 0 w', Nat.zero_le _, hb⟩
  | true =>
    obtain ⟨hW, hf⟩ := okC_yes ho
    obtain ⟨L, rfl, h1, h2⟩ := okW_nat hW
    exact (choices_good L m c a l w h1 h2 hmx ha hs hf).mono fun e w' ⟨av, he, hv, hb⟩ => ⟨m * L, av, he, hv.mono (Nat.zero_le _), Nat.mul_le_mul hmx h2, hb⟩
theorem rchoices_any (W : Int) (m c : Nat) (a : Option Addr) (l : List Nat) (w : World) (hmx : m ≤ 4096) (ha : Nl w m a l) (hs : Small l) :
    Calls Try.prog 8 #[.int .i64 W, .slice a m c] w (BPost (okC W l) (chL W m l) w) := by
  cases ho : okC W l with
  | false => exact (rchoices_bad W m c a l w hmx ha hs ho).mono fun e w' ⟨he, hb⟩ => ⟨none, 0, 0, he, bl_none w', Nat.zero_le _, hb⟩
  | true =>
    obtain ⟨hW, hf⟩ := okC_yes ho
    obtain ⟨L, rfl, h1, h2⟩ := okW_nat hW
    exact (rchoices_good L m c a l w h1 h2 hmx ha hs hf).mono fun e w' ⟨a1, c1, he, hn, hb⟩ => ⟨a1, m * L, c1, he, hn, Nat.mul_le_mul hmx h2, hb⟩
end Go.Proofs.Ytgcbdjmlhjbacaa.Gi
