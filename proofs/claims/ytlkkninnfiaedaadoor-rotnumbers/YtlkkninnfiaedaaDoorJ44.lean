/- Which numbers may be taken; the columns of seeds. Columns of one length; a column with the bits of others turned. -/
import Derived.Test.YtlkkninnfiaedaaDoorJ35
import Derived.Test.YtlkkninnfiaedaaDoorJ37
import Derived.Test.YtlkkninnfiaedaaDoorJ43
import Derived.Test.YtlkkninnfiaedaaDoorJ41
import Derived.Test.YtlkkninnfiaedaaDoorJ32
namespace Go.Proofs.YtlkkninnfiaedaaDoor.I
open Go.RowKit Pg
set_option maxRecDepth 100000
theorem hide1 {p : Prop} (h : p) : Hid p := h
attribute [local go_sem] not_any T.mf_any

/- may n transfers be numbered from F on? -/
def nC (F n : Nat) : Nat := if n < 1 ∨ 4096 < n then 2 else if 67108864 < F + n then 24 else 0

theorem numbered_any (F n : Nat) (w : World) (_hF : F < 18446744073709551616) (hn : n ≤ 4194304) :
    Calls Tryd.prog 44 #[.int .u64 (F : Int), .int .i64 (n : Int)] w fun e w' => e = .returned (.int .i64 (nC F n : Nat)) ∧ w' = w := by
  by_cases h1 : n < 1
  · have d1 : decide ((n : Int) < 1) = true := decide_eq_true (by omega)
    rw [show nC F n = 2 from if_pos (.inl h1)]
    go_enter Tryd.func44, Tryd.ntmps44
    go_wp2
    go_ret
    exact ⟨rfl, rfl⟩
  · have d1 : decide ((n : Int) < 1) = false := decide_eq_false (by omega)
    by_cases h2 : 4096 < n
    · have d2 : decide ((4096 : Int) < (n : Int)) = true := decide_eq_true (by omega)
      rw [show nC F n = 2 from if_pos (.inr h2)]
      go_enter Tryd.func44, Tryd.ntmps44
      go_wp2
      go_ret
      exact ⟨rfl, rfl⟩
    · have d2 : decide ((4096 : Int) < (n : Int)) = false := decide_eq_false (by omega)
      obtain ⟨m, hm⟩ : ∃ m : Nat, m = 67108864 - n := ⟨_, rfl⟩
      have e1 : IntKind.u64.wrap (n : Int) = (n : Int) := by rw [IntKind.wrap_u64]; omega
      have e2 : IntKind.u64.wrap ((67108864 : Int) - (n : Int)) = (m : Int) := by rw [IntKind.wrap_u64]; omega
      have e3 : (67108864 : Int) - (n : Int) = (m : Int) := by omega
      by_cases h3 : m < F
      · have d3 : decide ((m : Int) < (F : Int)) = true := decide_eq_true (by omega)
        rw [show nC F n = 24 by rw [nC, if_neg (by omega), if_pos (by omega)]]
        clear hm
        go_enter Tryd.func44, Tryd.ntmps44
        go_wp2
        go_ret
        exact ⟨rfl, rfl⟩
      · have d3 : decide ((m : Int) < (F : Int)) = false := decide_eq_false (by omega)
        rw [show nC F n = 0 by rw [nC, if_neg (by omega), if_neg (by omega)]]
        clear hm
        go_enter Tryd.func44, Tryd.ntmps44
        go_wp2
        go_ret
        exact ⟨rfl, rfl⟩

/- stage 7's Vecs are stage 2's -/
theorem pk_same (k : Nat) : ∀ l : List Nat, V.pk k l = T.pk k l
  | [] => rfl
  | d :: ds => by rw [V.pk, T.pk, pk_same k ds]
theorem chunk_same (s : Nat) (l : List Bool) (k : Nat) : V.chunk s l k = T.chunk s l k := pk_same 1 _
theorem chunks_same (s : Nat) (l : List Bool) : V.chunks s l = T.chunks s l := by
  unfold V.chunks T.chunks
  exact List.map_congr_left fun k _ => chunk_same s l k
theorem vc_same {b : Nat} {w : World} {n : Nat} {a : Option Addr} {l : List Bool} (h : V.Vc b w n a l) : T.Vc b w n a l := by
  refine ⟨h.len, ?_⟩
  have := h.at'
  rw [chunks_same] at this
  exact this
theorem bl_same {w : World} {n : Nat} {a : Option Addr} {l : List Bool} (h : V.Bl w n a l) : T.Bl w n a l := ⟨h.len, h.at'⟩

/- the bits of a seed's stream, from F on -/
def cl (kl : List Nat) (F N : Nat) : List Bool := bts kl 0 F N
theorem cl_length (kl : List Nat) (F N : Nat) : (cl kl F N).length = N := bts_length kl 0 F N
theorem bits_col (kl : List Nat) (F N : Nat) (w : World) (hk : kl.length = 32) (bk : Lt 256 kl) (hN : N ≤ 65536) (hF : F ≤ 1073741824) :
    Calls Tryd.prog 63 #[.agg (u8s kl).toArray, .int .u32 0, .int .i64 (F : Int), .int .i64 (N : Int)] w fun e w' => ∃ a, e = .returned (.tuple #[.agg #[.int .i64 (N : Int), .slice a (T.need N 64) (T.need N 64)], .int .i64 0]) ∧ T.Vc w.heap.size w' N a (cl kl F N) ∧ Below w.heap.size w w' := by
  refine (bits_yes kl 0 F N w hk bk (by omega) hN hF).mono ?_
  rintro e w' ⟨a, m, rfl, hv, hb⟩
  obtain rfl : N = m := by rw [← hv.len, bts_length]
  exact ⟨a, rfl, vc_same hv, hb⟩

theorem make_vrow (n : Nat) (L : Nat → List Bool) (w : World) : ∃ cs : Array Value, (Instr.makeSlice 69 (.int .i64 128) (.int .i64 128)).run Tryd.prog w = .ok (.slice (some ⟨w.heap.size, 0, none⟩) 128 128) (w.alloc (.cells cs 41 (0, 0))) ∧ T.Vrow (w.alloc (.cells cs 41 (0, 0))) w.heap.size 0 n (fun _ => none) L := by
  obtain ⟨cs0, hz0, hmk⟩ := T.make_vecs w
  exact ⟨cs0, hmk, ⟨⟨cs0, hz0, heap_alloc_new _ _, fun i hi => by omega⟩, fun i hi => by omega⟩⟩

set_option maxHeartbeats 4000000 in
theorem columns_any (S : Value) (f : Nat → List Nat) (F N : Nat) (w : World) (hS : Sds w S f 128) (hf : ∀ i, (f i).length = 32 ∧ Lt 256 (f i)) (hN : N ≤ 65536) (hF : F ≤ 1073741824) :
    Calls Tryd.prog 45 #[S, .int .u64 (F : Int), .int .i64 (N : Int)] w fun e w' => ∃ aa, e = .returned (.tuple #[.slice (some ⟨w.heap.size, 0, none⟩) 128 128, .int .i64 0]) ∧ T.Vrow w' w.heap.size 128 N aa (fun i => cl (f i) F N) ∧ Below w.heap.size w w' := by
  obtain ⟨gS, cS, rfl, hgS, hr⟩ := hS.at'
  have HR := hide1 hr
  have HGS : Shy (gS < w.heap.size) := ⟨hgS⟩
  have HF := hide1 hf
  have kb := fun w i => hide1 (bits_col (f i) F N w (hf i).1 (hf i).2 hN hF)
  obtain ⟨cs0, hmk, hv0⟩ := make_vrow N (fun i => cl (f i) F N) w
  have e1 : IntKind.i64.wrap (F : Int) = (F : Int) := by rw [IntKind.wrap_i64]; omega
  obtain ⟨W0, hW0⟩ : ∃ W0, W0 = w.alloc (.cells cs0 41 (0, 0)) := ⟨_, rfl⟩
  rw [← hW0] at hmk hv0
  have A0 := hide1 hv0
  have A1 : Hid (Below w.heap.size w W0) := by rw [hW0]; exact (Below.refl _ _).alloc (Nat.le_refl _) _
  clear hW0 hv0 hr hf hS
  obtain ⟨g, hg⟩ : ∃ g, g = w.heap.size := ⟨_, rfl⟩
  rw [← hg] at hmk A0 A1 HGS hgS ⊢
  have HG : Shy (g = w.heap.size) := ⟨hg⟩
  clear hg
  go_enter Tryd.func45, Tryd.ntmps45
  go_wp2
  clear hmk
  go_loopw [18] (fun i wr => ∃ (k : Nat) (aa : Nat → Option Addr), k ≤ 128 ∧ i = .int .i64 k ∧ T.Vrow wr g k N aa (fun i => cl (f i) F N) ∧ Below g w wr) (fun i _ => 128 - (intOf i).toNat)
  case atStart => exact ⟨0, _, Nat.zero_le _, rfl, A0.out, A1.out⟩
  case round =>
    obtain ⟨k, aa, hk, rfl, hV, hB⟩ := hrel
    clear A0 A1
    have HV := hide1 hV
    have HB := hide1 hB
    clear hV hB
    by_cases hlt : k < 128
    · have hlt' : (k : Int) < 128 := by omega
      have hkl := (HF.out k).1
      have hi := hi23 hkl
      have hi' := hi23' hkl
      have HZ : Shy ((u8s (zeros 32)).toArray.size = (u8s (f k)).toArray.size) := ⟨by simp [u8s, zeros, hkl]⟩
      have ra : Hid (wr.rangeAt gS (k * 32) (u8s (f k))) := fun j u hu => (HB.out.cell (p := ⟨gS, k * 32 + j, none⟩) (by have := HGS.out; simpa using this)).trans (HR.out k hlt j u hu)
      obtain ⟨b7, hb7⟩ : ∃ b, b = wr.heap.size := ⟨_, rfl⟩
      have kk := kb
      clear hkl
      go_upto_region 5 with (first | (refine wpList_load_mid rfl 28 (.tmp 21) rfl gS (k * 32) rfl (u8s (f k)) _ ra.out Tryd.underlying28 rfl hi' ?_) | (refine wpList_store_own rfl 28 (.tmp 10) (.tmp 22) rfl wr.heap.size rfl (u8s (f k)).toArray rfl 28 _ (heap_alloc_new wr (row8 28 (zeros 32))) hi HZ.out (all_one (u8s_one _)) ?_) | fail)
      generalize hW4 : World.setRow _ wr.heap.size _ = W4
      have R7 : Hid (W4.heap[b7]? = some (row8 28 (f k))) := by rw [← hW4, hb7]; exact setRow_heap _ _ _ _ _ _ (heap_alloc_new wr _)
      have B4 : Hid (Below wr.heap.size wr W4) := by rw [← hW4]; exact Below.setRow' ((Below.refl _ _).alloc (Nat.le_refl _) _) (Nat.le_refl _) _
      rw [← hb7]
      have HB7 : Shy (b7 = wr.heap.size) := ⟨hb7⟩
      clear hW4 hb7 HZ ra
      go_wp2_with (first | (refine wpList_load_row rfl 28 (.tmp 10) rfl b7 rfl 28 (u8s (f k)).toArray (0, 0) _ R7.out Tryd.underlying28 rfl hi ?_) | fail)
      go_at_call 63
      refine (kb _ k).out.mono ?_
      rintro e w1 ⟨av, rfl, hv1, hb1⟩
      have gl := (HV.out.cells (j := 0) (by omega)).2.2
      have hb := B4.out.trans (hb1.mono B4.out.size)
      have V1 : Hid (T.Vrow (w1.alloc (.cells #[.int .i64 N, .slice av (T.need N 64) (T.need N 64)] 41)) g k N aa (fun i => cl (f i) F N)) := (HV.out.below hb).below (T.below_alloc1 _ _)
      have B1 : Hid (Below g w (w1.alloc (.cells #[.int .i64 N, .slice av (T.need N 64) (T.need N 64)] 41))) := (HB.out.trans (hb.mono (by omega))).alloc (by have := hb.size; omega) _
      have C1 : Hid (T.Vc (g + 1) (w1.alloc (.cells #[.int .i64 N, .slice av (T.need N 64) (T.need N 64)] 41)) N av (cl (f k) F N)) := (hv1.mono (by have := B4.out.size; omega)).alloc _
      obtain ⟨d0, d1, d2, d3, _⟩ := T.box2 (heap_alloc_new w1 (.cells #[.int .i64 N, .slice av (T.need N 64) (T.need N 64)] 41))
      obtain ⟨⟨y0, e0⟩, e1', e2⟩ := V1.out.cells (j := k * 2) (by omega)
      obtain ⟨⟨y1, e3⟩, e4, _⟩ := V1.out.cells (j := k * 2 + 1) (by omega)
      clear hb1 hv1 gl hb B4 R7 kb kk
      go_upto_region 6 with (fail)
      generalize w1.alloc (.cells #[.int .i64 N, .slice av (T.need N 64) (T.need N 64)] 41) = W5 at *
      go_wp2
      go_roundw
      case rel => exact ⟨k + 1, _, by omega, by go_num, V1.out.add hlt C1.out, (B1.out.setCell (Nat.le_refl _) _).setCell (Nat.le_refl _) _⟩
      case measure => simp [intOf]; omega
    · obtain rfl : k = 128 := by omega
      go_wp2
      go_ret2
      exact ⟨aa, rfl, HV.out, HG.out ▸ HB.out⟩
end Go.Proofs.YtlkkninnfiaedaaDoor.I

namespace Go.Proofs.YtlkkninnfiaedaaDoor.I
open Go.RowKit Pg
set_option maxRecDepth 100000
attribute [local go_sem] not_any T.mf_any

def alf (m : Nat) (n : Nat → Nat) (N : Nat) : Bool := decide (∀ i, i < m → n i = N)

theorem allOf_any (w : World) (m c N : Nat) (a : Option Addr) (n : Nat → Nat) (aa : Nat → Option Addr) (L : Nat → List Bool) (hv : T.Vcs w m a n aa L) (hm : m ≤ 4096) (hm0 : 0 < m) :
    Calls Tryd.prog 48 #[.slice a m c, .int .i64 (N : Int)] w fun e w' => e = .returned (.bool (alf m n N)) ∧ Below w.heap.size w w' := by
  obtain ⟨g, o, rfl, hgl, hc⟩ := hv.first hm0
  have HC := hide1 hc
  have kL := fun (k : Nat) (s : Option Addr) w => hide1 (T.len_any (k : Int) (.slice s (T.need k 64) (T.need k 64)) w rfl)
  clear hc hv
  show Calls _ _ #[.slice (some ⟨g, o, none⟩) m c, .int .i64 (N : Int)] _ _
  go_enter Tryd.func48, Tryd.ntmps48
  go_wp2
  go_loopw [9] (fun iv wr => ∃ i : Nat, i ≤ m ∧ iv = .int .i64 i ∧ (∀ j, j < i → n j = N) ∧ Below w.heap.size w wr) (fun iv _ => m - (intOf iv).toNat)
  case atStart => exact ⟨0, Nat.zero_le _, rfl, fun j hj => by omega, Below.refl _ _⟩
  case round =>
    obtain ⟨i, hi, rfl, hE, hB⟩ := hrel
    have HE := hide1 hE
    have HB := hide1 hB
    clear hE
    by_cases hlt : i < m
    · have hlt' : (i : Int) < (m : Int) := by omega
      have d0 := (hB.cell (p := ⟨g, o + i * 2, none⟩) (by simp; omega)).trans (HC.out i hlt).1
      have d1 := (hB.cell (p := ⟨g, o + i * 2 + 1, none⟩) (by simp; omega)).trans (HC.out i hlt).2
      obtain ⟨x, hx⟩ : ∃ x, x = n i := ⟨_, rfl⟩
      obtain ⟨ai, hai⟩ : ∃ ai, ai = aa i := ⟨_, rfl⟩
      rw [← hx] at d0 d1
      rw [← hai] at d1
      have HX := hide1 hx
      clear hx hai hB
      obtain ⟨W, hW⟩ : ∃ W, W = wr.alloc (.cells #[.int .i64 x, .slice ai (T.need x 64) (T.need x 64)] 41) := ⟨_, rfl⟩
      have BW : Hid (Below w.heap.size w W) := by rw [hW]; exact HB.out.alloc HB.out.size _
      have hbx : W.heap[wr.heap.size]? = some (.cells #[.int .i64 x, .slice ai (T.need x 64) (T.need x 64)] 41 (0, 0)) := by rw [hW]; exact heap_alloc_new _ _
      obtain ⟨k0, k1, k2, k3, k4⟩ := T.box2 hbx
      go_upto_region 4 with (fail)
      rw [← hW]
      clear hW hbx d0 d1
      go_wp2_with fail
      go_at_call 17
      refine (kL _ _ _).out.mono ?_
      rintro e w2 ⟨rfl, rfl⟩
      by_cases hxy : x = N
      · subst hxy
        have t1 : ((x : Int) != (x : Int)) = false := by simp
        go_wp2
        go_roundw
        case rel => exact ⟨i + 1, by omega, by go_num, fun j hj => by
          by_cases e : j = i
          · rw [e, ← HX.out]
          · exact HE.out j (by omega), BW.out.alloc BW.out.size _⟩
        case measure => simp [intOf]; omega
      · have t1 : ((x : Int) != (N : Int)) = true := by rw [bne_iff_ne]; omega
        have HN : Hid (alf m n N = false) := decide_eq_false (fun h => hxy (by rw [HX.out]; exact h i hlt))
        clear hxy
        go_wp2
        go_ret
        rw [HN.out]
        exact ⟨rfl, BW.out.alloc BW.out.size _⟩
    · obtain rfl : i = m := by omega
      have HN : Hid (alf i n N = true) := decide_eq_true HE.out
      have hlt' : ¬ (i : Int) < (i : Int) := by omega
      go_wp2
      go_ret
      rw [HN.out]
      exact ⟨rfl, HB.out⟩

/- the bits of others turned, of the first k -/
def xk (l : List Bool) (L : Nat → List Bool) : Nat → List Bool
  | 0 => l
  | k + 1 => List.zipWith (fun x y => x ^^ y) (xk l L k) (L k)

set_option maxHeartbeats 4000000 in
theorem xor_any (w : World) (m c N b : Nat) (a ao : Option Addr) (aa : Nat → Option Addr) (l : List Bool) (L : Nat → List Bool) (hl : T.Vc b w N a l) (hv : T.Vcs w m ao (fun _ => N) aa L) (hm : m ≤ 4096) (hm0 : 0 < m) (hN : N ≤ 4194304) :
    Calls Tryd.prog 46 #[.agg #[.int .i64 (N : Int), .slice a (T.need N 64) (T.need N 64)], .slice ao m c] w fun e w' => ∃ a', e = .returned (.tuple #[.agg #[.int .i64 (N : Int), .slice a' (T.need N 64) (T.need N 64)], .int .i64 0]) ∧ T.Vc w.heap.size w' N a' (xk l L m) ∧ Below w.heap.size w w' := by
  obtain ⟨g, o, rfl, hgl, hc⟩ := hv.first hm0
  have HC := hide1 hc
  have HV := hide1 hv
  have HL := hide1 hl
  have kX := fun w b b' a a' la lb h1 h2 => hide1 (T.xor_any w N b b' a a' la lb h1 h2 hN)
  clear hc hv hl
  obtain ⟨W0, hW0⟩ : ∃ W0, W0 = (w.alloc (.cells #[.int .i64 (N : Int), .slice a (T.need N 64) (T.need N 64)] 41)).alloc (.cells #[.int .i64 0, .slice none 0 0] 41) := ⟨_, rfl⟩
  have A0 : Hid (W0.heap[w.heap.size]? = some (.cells #[.int .i64 (N : Int), .slice a (T.need N 64) (T.need N 64)] 41 (0, 0))) := by rw [hW0]; exact heap_alloc2_old _ _ _
  have A1 : Hid (W0.heap[w.heap.size + 1]? = some (.cells #[.int .i64 0, .slice none 0 0] 41 (0, 0))) := by rw [hW0]; exact heap_alloc2_new w _ _
  have A2 : Hid (Below w.heap.size w W0) := by rw [hW0]; exact ((Below.refl _ _).alloc (Nat.le_refl _) _).alloc (by rw [size_alloc]; omega) _
  show Calls _ _ #[.agg #[.int .i64 (N : Int), .slice a (T.need N 64) (T.need N 64)], .slice (some ⟨g, o, none⟩) m c] _ _
  go_enter Tryd.func46, Tryd.ntmps46
  go_upto_region 1 with (fail)
  rw [← hW0]
  clear hW0
  go_wp2
  go_loopw [12] (fun iv wr => ∃ (i : Nat) (ac : Option Addr), i ≤ m ∧ iv = .int .i64 i ∧ T.Vc (if i = 0 then 0 else w.heap.size + 2) wr N ac (xk l L i) ∧ wr.heap[w.heap.size]? = some (.cells #[.int .i64 (N : Int), .slice ac (T.need N 64) (T.need N 64)] 41 (0, 0)) ∧ wr.heap[w.heap.size + 1]? = some (.cells #[.int .i64 0, .slice none 0 0] 41 (0, 0)) ∧ Below w.heap.size w wr) (fun iv _ => m - (intOf iv).toNat)
  case atStart => exact ⟨0, a, Nat.zero_le _, rfl, (HL.out.below A2.out (Nat.le_refl _)).mono (Nat.zero_le _), A0.out, A1.out, A2.out⟩
  case round =>
    obtain ⟨i, ac, hi, rfl, hcv, hb0, hb1, hB⟩ := hrel
    clear A0 A1 A2
    have HB := hide1 hB
    have HCV := hide1 hcv
    have H0 := hide1 hb0
    have H1 := hide1 hb1
    clear hcv hb0 hb1
    by_cases hlt : i < m
    · have hlt' : (i : Int) < (m : Int) := by omega
      have d0 := (hB.cell (p := ⟨g, o + i * 2, none⟩) (by simp; omega)).trans (HC.out i hlt).1
      have d1 := (hB.cell (p := ⟨g, o + i * 2 + 1, none⟩) (by simp; omega)).trans (HC.out i hlt).2
      have vi := (HV.out.vc i hlt).below HB.out (Nat.le_refl _)
      obtain ⟨ai, hai⟩ : ∃ ai, ai = aa i := ⟨_, rfl⟩
      rw [← hai] at d1 vi
      have VI := hide1 vi
      clear hai hB vi
      obtain ⟨W, hW⟩ : ∃ W, W = wr.alloc (.cells #[.int .i64 N, .slice ai (T.need N 64) (T.need N 64)] 41) := ⟨_, rfl⟩
      have hbw : Below wr.heap.size wr W := by rw [hW]; exact T.below_alloc1 _ _
      have BW : Hid (Below w.heap.size w W) := HB.out.trans (hbw.mono HB.out.size)
      have VW : Hid (T.Vc 0 W N ai (L i)) := VI.out.below hbw (Nat.le_refl _)
      have CW : Hid (T.Vc (if i = 0 then 0 else w.heap.size + 2) W N ac (xk l L i)) := HCV.out.below hbw (Nat.le_refl _)
      have hbx : W.heap[wr.heap.size]? = some (.cells #[.int .i64 N, .slice ai (T.need N 64) (T.need N 64)] 41 (0, 0)) := by rw [hW]; exact heap_alloc_new _ _
      have h0 := (hbw.block _ (T.lt_heap H0.out)).trans H0.out
      have h1 := (hbw.block _ (T.lt_heap H1.out)).trans H1.out
      have G0 := hide1 h0
      have G1 := hide1 h1
      have HSZ : Shy (w.heap.size + 1 < W.heap.size) := ⟨T.lt_heap h1⟩
      obtain ⟨k0, k1, k2, k3, k4⟩ := T.box2 hbx
      obtain ⟨q0, q1, q2, q3, q4⟩ := T.box2 h0
      clear hbw h0 h1 HB HCV H0 H1 VI
      go_upto_region 4 with (fail)
      rw [← hW]
      clear hW hbx d0 d1
      go_wp2_with fail
      go_at_call 64
      refine (kX W _ _ _ _ _ _ CW.out VW.out).out.mono ?_
      rintro e w2 ⟨an, rfl, hvn, hbn⟩
      have z0 := (hbn.block _ (T.lt_heap G0.out)).trans G0.out
      have z1 := (hbn.block _ (T.lt_heap G1.out)).trans G1.out
      obtain ⟨W3, hW3⟩ : ∃ W3, W3 = w2.alloc (.cells #[.int .i64 N, .slice an (T.need N 64) (T.need N 64)] 41) := ⟨_, rfl⟩
      have hb3 : Below w2.heap.size w2 W3 := by rw [hW3]; exact T.below_alloc1 _ _
      have hbx : W3.heap[w2.heap.size]? = some (.cells #[.int .i64 N, .slice an (T.need N 64) (T.need N 64)] 41 (0, 0)) := by rw [hW3]; exact heap_alloc_new _ _
      have y0 := (hb3.block _ (T.lt_heap z0)).trans z0
      have y1 := (hb3.block _ (T.lt_heap z1)).trans z1
      have Y0 := hide1 y0
      have Y1 := hide1 y1
      have VN : Hid (T.Vc (w.heap.size + 2) W3 N an (xk l L (i + 1))) := ((hvn.below hb3 (Nat.le_refl _)).mono (by have := HSZ.out; omega))
      have BN : Hid (Below w.heap.size w W3) := (BW.out.trans (hbn.mono BW.out.size)).trans (hb3.mono (by have := HSZ.out; have := hbn.size; omega))
      obtain ⟨p0, p1, p2, p3, p4⟩ := T.box2 hbx
      obtain ⟨s0, s1, s2, s3, s4⟩ := T.box2 y0
      clear hvn hbn z0 z1 y0 y1 hb3 k0 k1 k2 k3 k4 q0 q1 q2 q3 q4 G0 G1 CW VW BW kX
      go_upto_region 5 with (fail)
      rw [← hW3]
      clear hW3 hbx
      go_wp2
      go_roundw
      case rel =>
        refine ⟨i + 1, an, by omega, by go_num, ?_, ?_, ?_, ?_⟩
        · rw [if_neg (by omega)]
          exact (VN.out.setCell (by simp) _).setCell (by simp) _
        · exact T.set_box2 Y0.out
        · rw [heap_setCell_other _ _ _ _ (by simp), heap_setCell_other _ _ _ _ (by simp)]; exact Y1.out
        · exact (BN.out.setCell (Nat.le_refl _) _).setCell (Nat.le_refl _) _
      case measure => simp [intOf]; omega
    · obtain rfl : i = m := by omega
      have hlt' : ¬ (i : Int) < (i : Int) := by omega
      have V0 : Hid (T.Vc (w.heap.size + 2) wr N ac (xk l L i)) := by have := HCV.out; rw [if_neg (by omega)] at this; exact this
      obtain ⟨q0, q1, q2, q3, q4⟩ := T.box2 H0.out
      obtain ⟨s0, s1, s2, s3, s4⟩ := T.box2 H1.out
      go_wp2
      refine T.ret_vec2 Tryd.results46 (w.heap.size + 1) _ _ _ rfl rfl (T.set_box2 H1.out) rfl ⟨_, rfl, ?_, ?_⟩
      · exact ((V0.out.setCell (by simp) _).setCell (by simp) _).mono (by omega)
      · exact (HB.out.setCell (by simp) _).setCell (by simp) _
end Go.Proofs.YtlkkninnfiaedaaDoor.I
