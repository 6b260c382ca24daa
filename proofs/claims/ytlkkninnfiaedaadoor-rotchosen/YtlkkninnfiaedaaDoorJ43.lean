/- Receive and Send. -/
import Derived.Test.YtlkkninnfiaedaaDoorJ31
import Derived.Test.YtlkkninnfiaedaaDoorJ42
namespace Go.Proofs.YtlkkninnfiaedaaDoor.Ro
open Go.RowKit Pg
set_option maxRecDepth 100000
attribute [local go_sem] not_any

/- what Receive makes of rows; and Send -/
def rcv (F : Nat) (R : Nat → Nat → Nat) (j : Nat) : List Nat := hashP (F + j) (R j 0) (R j 1)
def snd (d0 d1 F : Nat) (R : Nat → Nat → Nat) (j : Nat) : List Nat := hashP (F + j) (R j 0 ^^^ d0) (R j 1 ^^^ d1)
theorem rcv_good (F : Nat) (R : Nat → Nat → Nat) (j : Nat) : (rcv F R j).length = 32 ∧ Lt 256 (rcv F R j) := ⟨hashP_len _ _ _, hashP_lt _ _ _⟩
theorem snd_good (d0 d1 F : Nat) (R : Nat → Nat → Nat) (j : Nat) : (snd d0 d1 F R j).length = 32 ∧ Lt 256 (snd d0 d1 F R j) := ⟨hashP_len _ _ _, hashP_lt _ _ _⟩
theorem wrap_add {F k : Nat} (h : F + k < 18446744073709551616) : IntKind.u64.wrap ((F : Int) + (k : Int)) = ((F + k : Nat) : Int) := by rw [IntKind.wrap_u64]; omega
theorem wrap_k {k : Nat} (h : k < 18446744073709551616) : IntKind.u64.wrap (k : Int) = (k : Int) := by rw [IntKind.wrap_u64]; omega

set_option maxHeartbeats 4000000 in
theorem receive_any (F m c : Nat) (a : Option Addr) (R : Nat → Nat → Nat) (w : World) (hL : Sh.Laid w) (hR : T.Rws w m a R) (hm : m ≤ 4096) (hF : F + 4096 < 18446744073709551616) :
    Calls Tryd.prog 14 #[.int .u64 (F : Int), .slice a m c] w fun e w' => e = .returned (.slice (some ⟨w.heap.size, 0, none⟩) m m) ∧ w'.heap[w.heap.size]? = some (srow (rcv F R) m) ∧ Below w.heap.size w w' := by
  have hmk := fun w => make_seeds2 m (by omega) w
  have HG : Shy (∀ j, (rcv F R j).length = 32 ∧ Lt 256 (rcv F R j)) := ⟨rcv_good F R⟩
  have HH : Hid (∀ k, k < m → ∀ W, Below w.heap.size w W → Calls Tryd.prog 8 #[.int .u64 ((F + k : Nat) : Int), rw2 (R k 0) (R k 1)] W fun e w' => e = .returned (arr8 (rcv F R k)) ∧ Below W.heap.size W w') := fun k hk W hW => hash_any (F + k) (R k 0) (R k 1) W (hL.below hW hL.two) (hR.lt _ _)
  have HR := hide1 hR
  have HF := hide1 hF
  have HM := hide1 hm
  generalize rcv F R = S at *
  unfold rw2 arr8 at HH
  clear hL hR hF
  go_enter Tryd.func14, Tryd.ntmps14
  go_upto_region 2 with (fail)
  generalize hX : World.alloc w _ = X
  have x0 : X.heap[w.heap.size]? = some (srow (fst S 0) m) := by rw [← hX, fst_zero]; exact heap_alloc_new _ _
  have xb : Below w.heap.size w X := by rw [← hX]; exact (Below.refl _ _).alloc (Nat.le_refl _) _
  have X0 := hide1 x0
  have XB := hide1 xb
  clear hX x0 xb
  go_wp2
  go_loopw [13] (fun v wr => ∃ k : Nat, k ≤ m ∧ v = .int .i64 k ∧ wr.heap[w.heap.size]? = some (srow (fst S k) m) ∧ Below w.heap.size w wr) (fun v _ => m - (intOf v).toNat)
  case atStart => exact ⟨0, Nat.zero_le _, rfl, X0.out, XB.out⟩
  case round =>
    obtain ⟨k, hk, rfl, hr0, hbe⟩ := hrel
    by_cases hlt : k < m
    · have bk : (k : Int) < (m : Int) := by omega
      have bk2 : (k : Int) < 4096 := by omega
      obtain ⟨ga, oa, rfl, hga, hrw⟩ := (HR.out.below hbe (Nat.le_refl _)).first (by omega)
      obtain ⟨c0, c1⟩ := hrw k hlt
      have kh := HH.out k hlt
      have e2 : IntKind.u64.wrap ((F : Int) + (k : Int)) = ((F + k : Nat) : Int) := wrap_add (by have := HF.out; omega)
      have HSl : Shy (S k = S k ∧ (S k).length = 32) := ⟨⟨rfl, (HG.out k).1⟩⟩
      obtain ⟨s, hs⟩ : ∃ s, s = S k := ⟨_, rfl⟩
      rw [← hs] at kh
      replace HSl : Shy (s = S k ∧ s.length = 32) := ⟨⟨hs, by rw [hs]; exact HSl.out.2⟩⟩
      clear hs
      generalize R k 0 = y0 at *
      generalize R k 1 = y1 at *
      obtain ⟨n, hn⟩ : ∃ n, n = F + k := ⟨_, rfl⟩
      rw [← hn] at kh e2
      have KH := hide1 kh
      have R0 := hide1 hr0
      have HE := hide1 hbe
      have HSI := hide1 (hi23 HSl.out.2)
      clear hr0 hbe hrw kh hn
      obtain ⟨j2, hj2⟩ : ∃ j, j = oa + k * 2 := ⟨_, rfl⟩
      rw [← hj2] at c0 c1
      have ej : oa + k * 2 = j2 := hj2.symm
      clear hj2
      go_upto_region 5 with (fail)
      have hb2 : Below w.heap.size w (wr.alloc (.cells #[.int .u64 (y0 : Int), .int .u64 (y1 : Int)] 24)) := HE.out.alloc HE.out.size _
      have r2 : (wr.alloc (.cells #[.int .u64 (y0 : Int), .int .u64 (y1 : Int)] 24)).heap[w.heap.size]? = some (srow (fst S k) m) := (heap_alloc_old _ _ (lt_heap R0.out)).trans R0.out
      have v1 := heap_alloc_new wr (.cells #[.int .u64 (y0 : Int), .int .u64 (y1 : Int)] 24)
      have hbx := fun i => cell_of_row _ wr.heap.size i _ _ _ v1
      have q0 := hbx 0
      have q1 := hbx 1
      have HB2 := hide1 hb2
      have R2 := hide1 r2
      have e3 : IntKind.u64.wrap (k : Int) = (k : Int) := wrap_k (by omega)
      obtain ⟨gx, hgx⟩ : ∃ g, g = wr.heap.size := ⟨_, rfl⟩
      rw [← hgx] at q0 q1 ⊢
      clear hb2 r2 v1 hbx hga HE R0 c0 c1 ej hgx
      generalize World.alloc wr _ = V at *
      go_wp2_with fail
      go_at_call 8
      refine (KH.out _ HB2.out).mono ?_
      rintro e w1 ⟨rfl, hb1⟩
      have R3 := hide1 ((hb1.block _ (lt_heap R2.out)).trans R2.out)
      have HB3 := hide1 (HB2.out.trans (hb1.mono HB2.out.size))
      have HLn : Hid (∀ i, (fst S k i).length = 32) := fst_len HG.out k
      have HSz : Shy ((u8s s).toArray.size = 32) := ⟨by simp [u8s, HSl.out.2]⟩
      have HTH : Hid (w1.there w.heap.size (k * 32) (u8s s).toArray.size) := by show w1.there w.heap.size (k * 32) (u8s s).toArray.size; rw [HSz.out]; exact srow_there HLn.out R3.out hlt
      clear hb1 KH q0 q1 R2 HB2
      go_wp2_with (first | (refine wpList_store_mid rfl 28 (.tmp 26) (.tmp 25) rfl w.heap.size (k * 32) (u8s s).toArray rfl rfl HTH.out HSI.out (all_one (u8s_one _)) ?_) | fail)
      go_roundw
      case rel =>
        refine ⟨k + 1, by omega, by go_num, ?_, below_setCells (Nat.le_refl _) _ _ _ HB3.out⟩
        have := srow_set HLn.out R3.out hlt HSl.out.2
        rw [HSl.out.1, fst_upd] at this
        rw [HSl.out.1]
        exact this
      case measure => simp [intOf]; omega
    · obtain rfl : k = m := by omega
      have HFI : Hid (wr.heap[w.heap.size]? = some (srow S k)) := by show wr.heap[w.heap.size]? = _; rw [hr0]; unfold srow; rw [fst_all S k k (Nat.le_refl _)]
      have HE := hide1 hbe
      clear hr0 hbe
      go_wp2
      go_ret
      exact ⟨rfl, HFI.out, HE.out⟩

set_option maxHeartbeats 4000000 in
theorem rreceive_any (F m c : Nat) (a : Option Addr) (R : Nat → Nat → Nat) (w : World) (hR : T.Rws w m a R) (hm : m ≤ 4096) (hF : F + 4096 < 18446744073709551616) :
    Calls Tryd.prog 15 #[.int .u64 (F : Int), .slice a m c] w fun e w' => ∃ g d, e = .returned (.slice g m d) ∧ Sd w' m g (rcv F R) ∧ Below w.heap.size w w' := by
  obtain ⟨i0, hi0, hz0, hz1, hz2⟩ := info_of info_seed
  have HG : Shy (∀ j, (rcv F R j).length = 32 ∧ Lt 256 (rcv F R j)) := ⟨rcv_good F R⟩
  have HH : Hid (∀ k, k < m → ∀ W, Calls Tryd.prog 9 #[.int .u64 ((F + k : Nat) : Int), rw2 (R k 0) (R k 1)] W fun e w' => e = .returned (arr8 (rcv F R k)) ∧ Below W.heap.size W w') := fun k hk W => rhash_any (F + k) (R k 0) (R k 1) W (by omega) (hR.lt _ _)
  have HR := hide1 hR
  have HF := hide1 hF
  generalize rcv F R = S at *
  unfold rw2 arr8 at HH
  clear hR hF
  go_enter Tryd.func15, Tryd.ntmps15
  go_wp2
  go_loopw [5, 6] (fun v5 v6 wr => ∃ k : Nat, k ≤ m ∧ v6 = .int .i64 k ∧ (∃ a c, v5 = .slice a k c) ∧ wr.ownsRow w.heap.size 28 32 v5 k (u8s (flt S k)) ∧ Below w.heap.size w wr) (fun _ v6 _ => m - (intOf v6).toNat)
  case atStart => exact ⟨0, Nat.zero_le _, rfl, ⟨none, 0, rfl⟩, World.ownsRow_nil _ _ _ _, Below.refl _ _⟩
  case round =>
    obtain ⟨k, hk, rfl, ⟨a3, c3, rfl⟩, hro, hbe⟩ := hrel
    by_cases hlt : k < m
    · have bk : (k : Int) < (m : Int) := by omega
      obtain ⟨ga, oa, rfl, hga, hrw⟩ := (HR.out.below hbe (Nat.le_refl _)).first (by omega)
      obtain ⟨c0, c1⟩ := hrw k hlt
      have kh := HH.out k hlt
      have e2 : IntKind.u64.wrap ((F : Int) + (k : Int)) = ((F + k : Nat) : Int) := wrap_add (by have := HF.out; omega)
      have e3 : IntKind.u64.wrap (k : Int) = (k : Int) := wrap_k (by omega)
      have hsl := (HG.out k).1
      obtain ⟨s, hs⟩ : ∃ s, s = S k := ⟨_, rfl⟩
      have HSF : Shy (flt S k ++ s = flt S (k + 1)) := ⟨by rw [hs, flt]⟩
      rw [← hs] at kh hsl
      have HSl := hide1 hsl
      have HLs : Hid ((u8s s).length = 1 * 32) := by show (u8s s).length = 1 * 32; rw [u8s_length, hsl]
      clear hs
      generalize R k 0 = y0 at *
      generalize R k 1 = y1 at *
      obtain ⟨n, hn⟩ : ∃ n, n = F + k := ⟨_, rfl⟩
      rw [← hn] at kh e2
      have KH := hide1 kh
      have HRO := hide1 hro
      have HE := hide1 hbe
      clear hro hbe hrw kh hn hsl
      obtain ⟨j2, hj2⟩ : ∃ j, j = oa + k * 2 := ⟨_, rfl⟩
      rw [← hj2] at c0 c1
      have ej : oa + k * 2 = j2 := hj2.symm
      clear hj2 hga
      go_wp2_with fail
      go_at_call 9
      refine (KH.out _).mono ?_
      rintro e w1 ⟨rfl, hb1⟩
      have RO1 := hide1 (own_below HRO.out hb1)
      have HB1 := hide1 (HE.out.trans (hb1.mono HE.out.size))
      clear hb1 KH c0 c1 HRO HE
      go_wp2_with (first
        | (refine wpList_build_seed rfl (.tmp 22) rfl rfl HSl.out ?_)
        | (at_builtin; go_must (refine wpList_append_lies _ rfl (.tmp 13) (.tmp 23) 36 rfl w.heap.size 28 i0 (arr8 (zeros 32)) 32 32 Tryd.underlying36 hi0 hz0 hz1 hz2 (by kernel_rfl) (by decide) (.slice a3 k c3) k (u8s (flt S k)) rfl (RO1.out.alloc _) ⟨w1.heap.size, 0, none⟩ 1 1 (u8s s) rfl HLs.out (World.news_of_block (heap_alloc_new w1 (row8 28 s))) (u8s_one _) (by omega) (by unfold maxLen; omega) (by omega) (by have := HB1.out.size; rw [size_alloc]; omega) _ rfl ?_; intro g8 cap8 w8 ro8 gr8 wh8 lt8))
        | fail)
      rw [← u8s_append, HSF.out] at ro8
      have hb8 : Below w.heap.size (w1.alloc (row8 28 s)) w8 := (Below.refl _ _).grown gr8 (by rw [size_alloc]; have := HB1.out.size; omega) (fun k hk => (RO1.out.lt k hk).1)
      have hE8 : Below w.heap.size w w8 := (HB1.out.alloc HB1.out.size _).trans hb8
      have RO8 := hide1 ro8
      have HB8 := hide1 hE8
      clear ro8 hb8 gr8 wh8 lt8 hE8
      go_wp2
      go_roundw
      case rel => exact ⟨k + 1, by omega, by go_num, ⟨_, _, rfl⟩, RO8.out, HB8.out⟩
      case measure => simp [intOf]; omega
    · obtain rfl : k = m := by omega
      have HRO := hide1 hro
      have HE := hide1 hbe
      clear hro hbe
      go_wp2
      go_ret
      exact ⟨_, _, rfl, sd_own HG.out HRO.out, HE.out⟩

set_option maxHeartbeats 8000000 in
theorem send_any (d0 d1 F m c : Nat) (a : Option Addr) (R : Nat → Nat → Nat) (w : World) (hL : Sh.Laid w) (hR : T.Rws w m a R) (hm : m ≤ 4096) (hF : F + 4096 < 18446744073709551616) (h0 : d0 < 18446744073709551616) (h1 : d1 < 18446744073709551616) :
    Calls Tryd.prog 11 #[rw2 d0 d1, .int .u64 (F : Int), .slice a m c] w fun e w' => e = .returned (.slice (some ⟨w.heap.size + 1, 0, none⟩) m m) ∧ w'.heap[w.heap.size + 1]? = some (prow (pr (rcv F R) (snd d0 d1 F R)) m) ∧ Below w.heap.size w w' := by
  have hmk := fun w => make_pairs m (by omega) w
  have HG : Shy (∀ j, (pr (rcv F R) (snd d0 d1 F R) j).length = 32 ∧ Lt 256 (pr (rcv F R) (snd d0 d1 F R) j)) := ⟨pr_good (rcv_good F R) (snd_good d0 d1 F R)⟩
  have HZ : Shy (∀ k, pr (rcv F R) (snd d0 d1 F R) (2 * k) = rcv F R k ∧ pr (rcv F R) (snd d0 d1 F R) (2 * k + 1) = snd d0 d1 F R k) := ⟨fun k => ⟨pr_0 _ _ k, pr_1 _ _ k⟩⟩
  have HH : Hid (∀ k, k < m → ∀ W, Below w.heap.size w W → Calls Tryd.prog 8 #[.int .u64 ((F + k : Nat) : Int), rw2 (R k 0) (R k 1)] W fun e w' => e = .returned (arr8 (rcv F R k)) ∧ Below W.heap.size W w') := fun k hk W hW => hash_any (F + k) (R k 0) (R k 1) W (hL.below hW hL.two) (hR.lt _ _)
  have HO : Hid (∀ k, k < m → ∀ W, Calls Tryd.prog 34 #[rw2 (R k 0) (R k 1), rw2 d0 d1] W fun e w' => e = .returned (rw2 (R k 0 ^^^ d0) (R k 1 ^^^ d1)) ∧ Below W.heap.size W w') := fun k hk W => other_any _ _ _ _ W (hR.lt _ _) (hR.lt _ _) h0 h1
  have HH2 : Hid (∀ k, k < m → ∀ W, Below w.heap.size w W → Calls Tryd.prog 8 #[.int .u64 ((F + k : Nat) : Int), rw2 (R k 0 ^^^ d0) (R k 1 ^^^ d1)] W fun e w' => e = .returned (arr8 (snd d0 d1 F R k)) ∧ Below W.heap.size W w') := fun k hk W hW => hash_any (F + k) _ _ W (hL.below hW hL.two) (Nat.xor_lt_two_pow (n := 64) (hR.lt _ _) h0)
  have HR := hide1 hR
  have HF := hide1 hF
  have h26 := hi26
  generalize rcv F R = S0 at *
  generalize snd d0 d1 F R = S1 at *
  generalize pr S0 S1 = S at *
  unfold rw2 arr8 at HH HH2
  unfold rw2 at HO ⊢
  clear hL hR hF h0 h1
  go_enter Tryd.func11, Tryd.ntmps11
  go_upto_region 2 with (fail)
  generalize hX : World.alloc (World.alloc w _) _ = X
  have x0 : X.heap[w.heap.size]? = some (row2 d0 d1) := by rw [← hX]; exact heap_alloc2_old _ _ _
  have x1 : X.heap[w.heap.size + 1]? = some (prow (fst S (2 * 0)) m) := by rw [← hX, Nat.mul_zero, fst_zero]; exact heap_alloc2_new _ _ _
  have xb : Below w.heap.size w X := by rw [← hX]; exact ((Below.refl _ _).alloc (Nat.le_refl _) _).alloc (by simp) _
  have X0 := hide1 x0
  have X1 := hide1 x1
  have XB := hide1 xb
  clear hX x0 x1 xb
  go_wp2
  go_loopw [16] (fun v wr => ∃ k : Nat, k ≤ m ∧ v = .int .i64 k ∧ wr.heap[w.heap.size]? = some (row2 d0 d1) ∧ wr.heap[w.heap.size + 1]? = some (prow (fst S (2 * k)) m) ∧ Below w.heap.size w wr) (fun v _ => m - (intOf v).toNat)
  case atStart => exact ⟨0, Nat.zero_le _, rfl, X0.out, X1.out, XB.out⟩
  case round =>
    obtain ⟨k, hk, rfl, hr0, hr1, hbe⟩ := hrel
    by_cases hlt : k < m
    · have bk : (k : Int) < (m : Int) := by omega
      have bk2 : (k : Int) < 4096 := by omega
      obtain ⟨ga, oa, rfl, hga, hrw⟩ := (HR.out.below hbe (Nat.le_refl _)).first (by omega)
      obtain ⟨c0, c1⟩ := hrw k hlt
      have kh := HH.out k hlt
      have ko := HO.out k hlt
      have kh2 := HH2.out k hlt
      have e2 : IntKind.u64.wrap ((F : Int) + (k : Int)) = ((F + k : Nat) : Int) := wrap_add (by have := HF.out; omega)
      have e3 : IntKind.u64.wrap (k : Int) = (k : Int) := wrap_k (by omega)
      obtain ⟨s, hs⟩ : ∃ s, s = S0 k := ⟨_, rfl⟩
      obtain ⟨t, ht⟩ : ∃ t, t = S1 k := ⟨_, rfl⟩
      have HSt : Shy (s = S (2 * k) ∧ t = S (2 * k + 1)) := ⟨⟨hs.trans (HZ.out k).1.symm, ht.trans (HZ.out k).2.symm⟩⟩
      have hsl : s.length = 32 := by rw [HSt.out.1]; exact (HG.out _).1
      have htl : t.length = 32 := by rw [HSt.out.2]; exact (HG.out _).1
      rw [← hs] at kh
      rw [← ht] at kh2
      clear hs ht
      generalize R k 0 ^^^ d0 = x0 at *
      generalize R k 1 ^^^ d1 = x1 at *
      generalize R k 0 = y0 at *
      generalize R k 1 = y1 at *
      obtain ⟨n, hn⟩ : ∃ n, n = F + k := ⟨_, rfl⟩
      rw [← hn] at kh e2 kh2
      have KH := hide1 kh
      have KO := hide1 ko
      have KH2 := hide1 kh2
      have R0 := hide1 hr0
      have R1 := hide1 hr1
      have HE := hide1 hbe
      have HSL := hide1 (And.intro hsl htl)
      have HSI := hide1 (hiP hsl htl)
      clear hr0 hr1 hbe hrw kh ko kh2 hn hsl htl
      obtain ⟨j2, hj2⟩ : ∃ j, j = oa + k * 2 := ⟨_, rfl⟩
      rw [← hj2] at c0 c1
      have ej : oa + k * 2 = j2 := hj2.symm
      clear hj2
      go_upto_region 6 with (fail)
      generalize hV : World.alloc wr _ = V
      have r0 : V.heap[w.heap.size]? = some (row2 d0 d1) := by rw [← hV]; exact (heap_alloc_old _ _ (lt_heap R0.out)).trans R0.out
      have r1 : V.heap[w.heap.size + 1]? = some (prow (fst S (2 * k)) m) := by rw [← hV]; exact (heap_alloc_old _ _ (lt_heap R1.out)).trans R1.out
      have r2 : V.heap[wr.heap.size]? = some (row2 y0 y1) := by rw [← hV]; exact heap_alloc_new _ _
      have hb2 : Below w.heap.size w V := by rw [← hV]; exact HE.out.alloc HE.out.size _
      obtain ⟨gx, hgx⟩ : ∃ g, g = wr.heap.size := ⟨_, rfl⟩
      rw [← hgx] at r2 ⊢
      have V0 := hide1 r0
      have V1 := hide1 r1
      have V2 := hide1 r2
      have VB := hide1 hb2
      clear hV r0 r1 r2 hb2 hgx hga c0 c1 ej R0 R1 HE e2 e3
      refine region_f (F := [12]) (S := fun W' => Below V.heap.size V W') (by kernel_rfl) (Below.refl _ _).drew (fun hS => ?_)
      refine take_p 0 25 (.slice (some ⟨w.heap.size + 1, 0, none⟩) m m) rfl rfl (by kernel_rfl) (by kernel_rfl) (by kernel_rfl) (fun _ _ _ h => h) rfl (fun w => by go_simp) ?_
      try simp only [List.setIfInBounds_toArray, List.set_cons_zero, List.set_cons_succ]
      refine take_p 1 26 (.int .i64 (k : Int)) rfl rfl (by kernel_rfl) (by kernel_rfl) (by kernel_rfl) (fun _ _ _ h => h) rfl (fun w => by go_simp) ?_
      try simp only [List.setIfInBounds_toArray, List.set_cons_zero, List.set_cons_succ]
      refine take_p 2 27 (.int .u64 (n : Int)) rfl rfl (by kernel_rfl) (by kernel_rfl) (by kernel_rfl) (fun _ _ _ h => h) rfl (fun w => by go_simp) ?_
      try simp only [List.setIfInBounds_toArray, List.set_cons_zero, List.set_cons_succ]
      refine take_f 3 28 (.agg #[.int .u64 (y0 : Int), .int .u64 (y1 : Int)]) [4, 8, 9, 10, 11, 12] rfl rfl (by kernel_rfl) (by kernel_rfl) (by kernel_rfl) (by kernel_rfl) (by kernel_rfl) (by kernel_rfl) (fun _ _ _ h => h) rfl (fun w hSw => by exact exec_load_row 24 (.tmp 9) rfl _ rfl 24 _ _ _ ((hSw.block _ (lt_heap V2.out)).trans V2.out) Tryd.underlying24 (h26 _ _)) hS ?_
      try simp only [List.setIfInBounds_toArray, List.set_cons_zero, List.set_cons_succ]
      refine take_p 5 30 (.int .u64 (n : Int)) rfl rfl (by kernel_rfl) (by kernel_rfl) (by kernel_rfl) (fun _ _ _ h => h) rfl (fun w => by go_simp) ?_
      try simp only [List.setIfInBounds_toArray, List.set_cons_zero, List.set_cons_succ]
      refine take_f 6 31 (.agg #[.int .u64 (y0 : Int), .int .u64 (y1 : Int)]) [8, 9, 10, 11, 12] rfl rfl (by kernel_rfl) (by kernel_rfl) (by kernel_rfl) (by kernel_rfl) (by kernel_rfl) (by kernel_rfl) (fun _ _ _ h => h) rfl (fun w hSw => by exact exec_load_row 24 (.tmp 9) rfl _ rfl 24 _ _ _ ((hSw.block _ (lt_heap V2.out)).trans V2.out) Tryd.underlying24 (h26 _ _)) hS ?_
      try simp only [List.setIfInBounds_toArray, List.set_cons_zero, List.set_cons_succ]
      refine take_f 7 32 (.agg #[.int .u64 (d0 : Int), .int .u64 (d1 : Int)]) [8, 9, 10, 11, 12] rfl rfl (by kernel_rfl) (by kernel_rfl) (by kernel_rfl) (by kernel_rfl) (by kernel_rfl) (by kernel_rfl) (fun _ _ _ h => h) rfl (fun w hSw => by exact exec_load_row 24 (.tmp 3) rfl _ rfl 24 _ _ _ ((hSw.block _ (lt_heap V0.out)).trans V0.out) Tryd.underlying24 (h26 _ _)) hS ?_
      try simp only [List.setIfInBounds_toArray, List.set_cons_zero, List.set_cons_succ]
      refine ready_f 4 (o := { dst := some 29, op := Op.call { callee := Callee.value (Operand.func 8), args := #[Operand.tmp 27, Operand.tmp 28], argTypes := #[22, 24] }, type := 28, pos := "rot.go:34", after := #[{ on := 2, ground := Ground.data }, { on := 3, ground := Ground.data }], guard := none }) (by kernel_rfl) rfl (fun K hK => ?_)
      go_simp
      refine (KH.out _ (VB.out.trans (hS.mono VB.out.size))).mono ?_
      rintro e w1 ⟨rfl, hb1⟩
      have hS1 := hS.trans (hb1.mono hS.size)
      refine hK.out _ _ (fun _ _ => hS1) ?_
      clear hb1
      clear hK K
      try simp only [Act.put, List.setIfInBounds_toArray, List.set_cons_zero, List.set_cons_succ]
      refine ready_f 8 (o := { dst := some 33, op := Op.call { callee := Callee.value (Operand.func 34), args := #[Operand.tmp 31, Operand.tmp 32], argTypes := #[24, 24] }, type := 24, pos := "rot.go:34", after := #[{ on := 6, ground := Ground.data }, { on := 7, ground := Ground.data }, { on := 4, ground := Ground.chain }], guard := none }) (by kernel_rfl) rfl (fun K hK => ?_)
      go_simp
      refine (KO.out _).mono ?_
      rintro e w2 ⟨rfl, hb2⟩
      have hS2 := hS1.trans (hb2.mono hS1.size)
      refine hK.out _ _ (fun _ _ => hS2) ?_
      clear hb2
      clear hK K
      try simp only [Act.put, List.setIfInBounds_toArray, List.set_cons_zero, List.set_cons_succ]
      refine ready_f 9 (o := { dst := some 34, op := Op.call { callee := Callee.value (Operand.func 8), args := #[Operand.tmp 30, Operand.tmp 33], argTypes := #[22, 24] }, type := 28, pos := "rot.go:34", after := #[{ on := 5, ground := Ground.data }, { on := 8, ground := Ground.data }, { on := 8, ground := Ground.chain }], guard := none }) (by kernel_rfl) rfl (fun K hK => ?_)
      go_simp
      refine (KH2.out _ (VB.out.trans (hS2.mono VB.out.size))).mono ?_
      rintro e w5 ⟨rfl, hb5⟩
      have hS5 := hS2.trans (hb5.mono hS2.size)
      refine hK.out _ _ (fun _ _ => hS5) ?_
      clear hb5
      clear hK K
      try simp only [Act.put, List.setIfInBounds_toArray, List.set_cons_zero, List.set_cons_succ]
      refine take_p 10 35 (.agg (u8s (s ++ t)).toArray) rfl rfl (by kernel_rfl) (by kernel_rfl) (by kernel_rfl) (fun _ _ _ h => h) rfl (fun w => by exact exec_pair _ _ rfl rfl rfl HSL.out.1 HSL.out.2) ?_
      try simp only [List.setIfInBounds_toArray, List.set_cons_zero, List.set_cons_succ]
      refine take_p 11 36 (.pointer (some ⟨w.heap.size + 1, k * 64, none⟩)) rfl rfl (by kernel_rfl) (by kernel_rfl) (by kernel_rfl) (fun _ _ _ h => h) rfl (fun w => by go_simp) ?_
      try simp only [List.setIfInBounds_toArray, List.set_cons_zero, List.set_cons_succ]
      have HTH : Hid (w5.there (w.heap.size + 1) (k * 64) (u8s (s ++ t)).toArray.size) := by show w5.there (w.heap.size + 1) (k * 64) (u8s (s ++ t)).toArray.size; rw [show (u8s (s ++ t)).toArray.size = 64 by simp [u8s, HSL.out.1, HSL.out.2]]; exact prow_there (fst_len HG.out _) ((hS5.block _ (lt_heap V1.out)).trans V1.out) hlt
      refine ready_f 12 (o := { dst := none, op := Op.store 74 (Operand.tmp 36) (Operand.tmp 35), type := 0, pos := "rot.go:34", after := #[{ on := 11, ground := Ground.data }, { on := 10, ground := Ground.data }, { on := 9, ground := Ground.chain }, { on := 0, ground := Ground.phase }, { on := 1, ground := Ground.phase }, { on := 2, ground := Ground.phase }, { on := 3, ground := Ground.phase }, { on := 4, ground := Ground.phase }, { on := 5, ground := Ground.phase }, { on := 6, ground := Ground.phase }, { on := 7, ground := Ground.phase }, { on := 8, ground := Ground.phase }, { on := 9, ground := Ground.phase }, { on := 10, ground := Ground.phase }], guard := none }) (by kernel_rfl) rfl (fun K hK => ?_)
      rw [if_pos (by rfl)]
      refine wp_store_mid 74 _ _ rfl (w.heap.size + 1) (k * 64) (u8s (s ++ t)).toArray rfl rfl HTH.out HSI.out (all_one (u8s_one _)) ?_
      refine hK.out _ _ (fun h => absurd (by decide) h) ?_
      clear hK K
      refine done_f (by kernel_rfl) ?_ _
      have R3 := (hS5.block _ (lt_heap V1.out)).trans V1.out
      have R4 := (hS5.block _ (lt_heap V0.out)).trans V0.out
      have HB3 := VB.out.trans (hS5.mono VB.out.size)
      have hps := prow_set (fst_len HG.out (2 * k)) R3 hlt HSL.out.1 HSL.out.2
      have hpo := (setCells_other (g := w.heap.size + 1) (k := w.heap.size) (by omega) (u8s (s ++ t)) (k * 64) w5).trans R4
      have hpb := below_setCells (g := w.heap.size + 1) (by omega) (u8s (s ++ t)) (k * 64) w5 HB3
      rw [HSt.out.1, HSt.out.2, fst_upd2, ← HSt.out.1, ← HSt.out.2] at hps
      rw [show (u8s (s ++ t)).toArray.toList = u8s (s ++ t) from rfl]
      generalize World.setCells w5 _ _ _ = Z at *
      have Z1 := hide1 hps
      have Z0 := hide1 hpo
      have ZB := hide1 hpb
      clear hS5 HTH V0 V1 V2 VB KH KO KH2 hps hpo hpb R3 R4 HB3 HSt HSI HSL
      go_wp2
      go_roundw
      case rel => exact ⟨k + 1, by omega, by go_num, Z0.out, Z1.out, ZB.out⟩
      case measure => simp [intOf]; omega
    · obtain rfl : k = m := by omega
      have HFI : Hid (wr.heap[w.heap.size + 1]? = some (prow S k)) := by show wr.heap[w.heap.size + 1]? = _; rw [hr1]; unfold prow; rw [fst_all S (2 * k) (2 * k) (Nat.le_refl _)]
      have HE := hide1 hbe
      clear hr0 hr1 hbe
      go_wp2
      go_ret
      exact ⟨rfl, HFI.out, HE.out⟩

set_option maxHeartbeats 8000000 in
theorem rsend_any (d0 d1 F m c : Nat) (a : Option Addr) (R : Nat → Nat → Nat) (w : World) (hR : T.Rws w m a R) (hm : m ≤ 4096) (hF : F + 4096 < 18446744073709551616) (h0 : d0 < 18446744073709551616) (h1 : d1 < 18446744073709551616) :
    Calls Tryd.prog 12 #[rw2 d0 d1, .int .u64 (F : Int), .slice a m c] w fun e w' => ∃ g d, e = .returned (.slice g m d) ∧ Pd w' m g (pr (rcv F R) (snd d0 d1 F R)) ∧ Below w.heap.size w w' := by
  obtain ⟨i0, hi0, hz0, hz1, hz2⟩ := info_of info_rpair
  have HG : Shy (∀ j, (pr (rcv F R) (snd d0 d1 F R) j).length = 32 ∧ Lt 256 (pr (rcv F R) (snd d0 d1 F R) j)) := ⟨pr_good (rcv_good F R) (snd_good d0 d1 F R)⟩
  have HZ : Shy (∀ k, pr (rcv F R) (snd d0 d1 F R) (2 * k) = rcv F R k ∧ pr (rcv F R) (snd d0 d1 F R) (2 * k + 1) = snd d0 d1 F R k) := ⟨fun k => ⟨pr_0 _ _ k, pr_1 _ _ k⟩⟩
  have HH : Hid (∀ k, k < m → ∀ W, Calls Tryd.prog 9 #[.int .u64 ((F + k : Nat) : Int), rw2 (R k 0) (R k 1)] W fun e w' => e = .returned (arr8 (rcv F R k)) ∧ Below W.heap.size W w') := fun k hk W => rhash_any (F + k) (R k 0) (R k 1) W (by omega) (hR.lt _ _)
  have HH2 : Hid (∀ k, k < m → ∀ W, Calls Tryd.prog 9 #[.int .u64 ((F + k : Nat) : Int), rw2 (R k 0 ^^^ d0) (R k 1 ^^^ d1)] W fun e w' => e = .returned (arr8 (snd d0 d1 F R k)) ∧ Below W.heap.size W w') := fun k hk W => rhash_any (F + k) _ _ W (by omega) (Nat.xor_lt_two_pow (n := 64) (hR.lt _ _) h0)
  have HX : Shy (∀ k, bits .xor .u64 (R k 0 : Nat) (d0 : Int) = ((R k 0 ^^^ d0 : Nat) : Int) ∧ bits .xor .u64 (R k 1 : Nat) (d1 : Int) = ((R k 1 ^^^ d1 : Nat) : Int)) := ⟨fun k => ⟨u64_xor_nat _ _ (hR.lt _ _) h0, u64_xor_nat _ _ (hR.lt _ _) h1⟩⟩
  have HR := hide1 hR
  have HF := hide1 hF
  generalize rcv F R = S0 at *
  generalize snd d0 d1 F R = S1 at *
  generalize pr S0 S1 = S at *
  unfold rw2 arr8 at HH HH2
  unfold rw2
  clear hR hF h0 h1
  go_enter Tryd.func12, Tryd.ntmps12
  go_upto_region 2 with (fail)
  generalize hX : World.alloc w _ = X
  have x0 : X.heap[w.heap.size]? = some (row2 d0 d1) := by rw [← hX]; exact heap_alloc_new _ _
  have xb : Below w.heap.size w X := by rw [← hX]; exact (Below.refl _ _).alloc (Nat.le_refl _) _
  have X0 := hide1 x0
  have XB := hide1 xb
  clear hX x0 xb
  go_wp2
  go_loopw [7, 8, 9] (fun v7 v8 _ wr => ∃ k : Nat, k ≤ m ∧ v8 = .int .i64 k ∧ (∃ a c, v7 = .slice a k c) ∧ wr.ownsRow (w.heap.size + 1) 56 64 v7 k (u8s (flt S (2 * k))) ∧ wr.heap[w.heap.size]? = some (row2 d0 d1) ∧ Below w.heap.size w wr) (fun _ v8 _ _ => m - (intOf v8).toNat)
  case atStart => exact ⟨0, Nat.zero_le _, rfl, ⟨none, 0, rfl⟩, World.ownsRow_nil _ _ _ _, X0.out, XB.out⟩
  case round =>
    obtain ⟨k, hk, rfl, ⟨a3, c3, rfl⟩, hro, hr0, hbe⟩ := hrel
    by_cases hlt : k < m
    · have bk : (k : Int) < (m : Int) := by omega
      obtain ⟨ga, oa, rfl, hga, hrw⟩ := (HR.out.below hbe (Nat.le_refl _)).first (by omega)
      obtain ⟨c0, c1⟩ := hrw k hlt
      have kh := HH.out k hlt
      have kh2 := HH2.out k hlt
      obtain ⟨u0, u1⟩ := HX.out k
      have e2 : IntKind.u64.wrap ((F : Int) + (k : Int)) = ((F + k : Nat) : Int) := wrap_add (by have := HF.out; omega)
      have e3 : IntKind.u64.wrap (k : Int) = (k : Int) := wrap_k (by omega)
      obtain ⟨s, hs⟩ : ∃ s, s = S0 k := ⟨_, rfl⟩
      obtain ⟨t, ht⟩ : ∃ t, t = S1 k := ⟨_, rfl⟩
      have HSt : Shy (s = S (2 * k) ∧ t = S (2 * k + 1)) := ⟨⟨hs.trans (HZ.out k).1.symm, ht.trans (HZ.out k).2.symm⟩⟩
      have hsl : s.length = 32 := by rw [HSt.out.1]; exact (HG.out _).1
      have htl : t.length = 32 := by rw [HSt.out.2]; exact (HG.out _).1
      have HSF : Shy (flt S (2 * k) ++ (s ++ t) = flt S (2 * (k + 1))) := ⟨by rw [HSt.out.1, HSt.out.2, flt_two]⟩
      rw [← hs] at kh
      rw [← ht] at kh2
      clear hs ht HSt
      generalize R k 0 ^^^ d0 = x0 at *
      generalize R k 1 ^^^ d1 = x1 at *
      generalize R k 0 = y0 at *
      generalize R k 1 = y1 at *
      obtain ⟨n, hn⟩ : ∃ n, n = F + k := ⟨_, rfl⟩
      rw [← hn] at kh e2 kh2
      have KH := hide1 kh
      have KH2 := hide1 kh2
      have HRO := hide1 hro
      have R0 := hide1 hr0
      have HE := hide1 hbe
      have HSL := hide1 (And.intro hsl htl)
      have HLs : Hid ((u8s (s ++ t)).length = 1 * 64) := by show (u8s (s ++ t)).length = 1 * 64; rw [u8s_length, List.length_append, hsl, htl]
      obtain ⟨j2, hj2⟩ : ∃ j, j = oa + k * 2 := ⟨_, rfl⟩
      rw [← hj2] at c0 c1
      have ej : oa + k * 2 = j2 := hj2.symm
      have CA : Hid (∀ W, Below wr.heap.size wr W → W.cell? ⟨ga, j2, none⟩ = some (.int .u64 (y0 : Int)) ∧ W.cell? ⟨ga, j2 + 1, none⟩ = some (.int .u64 (y1 : Int))) := fun W hW => ⟨(hW.cell (p := ⟨ga, j2, none⟩) hga).trans c0, (hW.cell (p := ⟨ga, j2 + 1, none⟩) hga).trans c1⟩
      have CD : Hid (∀ W, Below wr.heap.size wr W → W.cell? ⟨w.heap.size, 0, none⟩ = some (.int .u64 (d0 : Int)) ∧ W.cell? ⟨w.heap.size, 1, none⟩ = some (.int .u64 (d1 : Int))) := fun W hW => by
        have h := (hW.block _ (lt_heap hr0)).trans hr0
        rw [cell_of_row W _ _ _ _ _ h, cell_of_row W _ _ _ _ _ h]
        exact ⟨rfl, rfl⟩
      clear hro hr0 hbe hrw kh kh2 hn hsl htl hj2 hga c0 c1
      go_upto_region 6 with (fail)
      refine region_f (F := [28]) (S := fun W' => Below wr.heap.size wr W') (by kernel_rfl) (Below.refl _ _).drew (fun hS => ?_)
      refine take_p 0 20 (.slice a3 k c3) rfl rfl (by kernel_rfl) (by kernel_rfl) (by kernel_rfl) (fun _ _ _ h => h) rfl (fun w => by go_simp) ?_
      try simp only [List.setIfInBounds_toArray, List.set_cons_zero, List.set_cons_succ]
      refine take_p 1 21 (.int .u64 (n : Int)) rfl rfl (by kernel_rfl) (by kernel_rfl) (by kernel_rfl) (fun _ _ _ h => h) rfl (fun w => by go_simp) ?_
      try simp only [List.setIfInBounds_toArray, List.set_cons_zero, List.set_cons_succ]
      refine take_p 2 22 (.slice (some ⟨ga, oa, none⟩) m c) rfl rfl (by kernel_rfl) (by kernel_rfl) (by kernel_rfl) (fun _ _ _ h => h) rfl (fun w => by go_simp) ?_
      try simp only [List.setIfInBounds_toArray, List.set_cons_zero, List.set_cons_succ]
      refine take_p 3 23 (.int .i64 (k : Int)) rfl rfl (by kernel_rfl) (by kernel_rfl) (by kernel_rfl) (fun _ _ _ h => h) rfl (fun w => by go_simp) ?_
      try simp only [List.setIfInBounds_toArray, List.set_cons_zero, List.set_cons_succ]
      refine take_p 4 24 (.pointer (some ⟨ga, j2, none⟩)) rfl rfl (by kernel_rfl) (by kernel_rfl) (by kernel_rfl) (fun _ _ _ h => h) rfl (fun w => by go_simp) ?_
      try simp only [List.setIfInBounds_toArray, List.set_cons_zero, List.set_cons_succ]
      refine take_f 5 25 (.agg #[.int .u64 (y0 : Int), .int .u64 (y1 : Int)]) [6, 25, 26, 27, 28, 29] rfl rfl (by kernel_rfl) (by kernel_rfl) (by kernel_rfl) (by kernel_rfl) (by kernel_rfl) (by kernel_rfl) (fun _ _ _ h => h) rfl (fun w hSw => by have h1 := (CA.out w hSw).1; have h2 := (CA.out w hSw).2; go_simp) hS ?_
      try simp only [List.setIfInBounds_toArray, List.set_cons_zero, List.set_cons_succ]
      refine take_p 7 27 (.int .u64 (n : Int)) rfl rfl (by kernel_rfl) (by kernel_rfl) (by kernel_rfl) (fun _ _ _ h => h) rfl (fun w => by go_simp) ?_
      try simp only [List.setIfInBounds_toArray, List.set_cons_zero, List.set_cons_succ]
      refine take_p 8 28 (.slice (some ⟨ga, oa, none⟩) m c) rfl rfl (by kernel_rfl) (by kernel_rfl) (by kernel_rfl) (fun _ _ _ h => h) rfl (fun w => by go_simp) ?_
      try simp only [List.setIfInBounds_toArray, List.set_cons_zero, List.set_cons_succ]
      refine take_p 9 29 (.int .i64 (k : Int)) rfl rfl (by kernel_rfl) (by kernel_rfl) (by kernel_rfl) (fun _ _ _ h => h) rfl (fun w => by go_simp) ?_
      try simp only [List.setIfInBounds_toArray, List.set_cons_zero, List.set_cons_succ]
      refine take_p 10 30 (.pointer (some ⟨ga, j2, none⟩)) rfl rfl (by kernel_rfl) (by kernel_rfl) (by kernel_rfl) (fun _ _ _ h => h) rfl (fun w => by go_simp) ?_
      try simp only [List.setIfInBounds_toArray, List.set_cons_zero, List.set_cons_succ]
      refine take_p 11 31 (.pointer (some ⟨ga, j2, none⟩)) rfl rfl (by kernel_rfl) (by kernel_rfl) (by kernel_rfl) (fun _ _ _ h => h) rfl (fun w => by go_simp) ?_
      try simp only [List.setIfInBounds_toArray, List.set_cons_zero, List.set_cons_succ]
      refine take_f 12 32 (.int .u64 (y0 : Int)) [15, 24, 25, 26, 27, 28, 29] rfl rfl (by kernel_rfl) (by kernel_rfl) (by kernel_rfl) (by kernel_rfl) (by kernel_rfl) (by kernel_rfl) (fun _ _ _ h => h) rfl (fun w hSw => by have h1 := (CA.out w hSw).1; have h2 := (CA.out w hSw).2; go_simp) hS ?_
      try simp only [List.setIfInBounds_toArray, List.set_cons_zero, List.set_cons_succ]
      refine take_p 13 33 (.pointer (some ⟨w.heap.size, 0, none⟩)) rfl rfl (by kernel_rfl) (by kernel_rfl) (by kernel_rfl) (fun _ _ _ h => h) rfl (fun w => by go_simp) ?_
      try simp only [List.setIfInBounds_toArray, List.set_cons_zero, List.set_cons_succ]
      refine take_f 14 34 (.int .u64 (d0 : Int)) [15, 24, 25, 26, 27, 28, 29] rfl rfl (by kernel_rfl) (by kernel_rfl) (by kernel_rfl) (by kernel_rfl) (by kernel_rfl) (by kernel_rfl) (fun _ _ _ h => h) rfl (fun w hSw => by have h1 := (CD.out w hSw).1; have h2 := (CD.out w hSw).2; go_simp) hS ?_
      try simp only [List.setIfInBounds_toArray, List.set_cons_zero, List.set_cons_succ]
      refine take_p 15 35 (.int .u64 (x0 : Int)) rfl rfl (by kernel_rfl) (by kernel_rfl) (by kernel_rfl) (fun _ _ _ h => h) rfl (fun w => by go_simp) ?_
      try simp only [List.setIfInBounds_toArray, List.set_cons_zero, List.set_cons_succ]
      refine take_p 16 36 (.slice (some ⟨ga, oa, none⟩) m c) rfl rfl (by kernel_rfl) (by kernel_rfl) (by kernel_rfl) (fun _ _ _ h => h) rfl (fun w => by go_simp) ?_
      try simp only [List.setIfInBounds_toArray, List.set_cons_zero, List.set_cons_succ]
      refine take_p 17 37 (.int .i64 (k : Int)) rfl rfl (by kernel_rfl) (by kernel_rfl) (by kernel_rfl) (fun _ _ _ h => h) rfl (fun w => by go_simp) ?_
      try simp only [List.setIfInBounds_toArray, List.set_cons_zero, List.set_cons_succ]
      refine take_p 18 38 (.pointer (some ⟨ga, j2, none⟩)) rfl rfl (by kernel_rfl) (by kernel_rfl) (by kernel_rfl) (fun _ _ _ h => h) rfl (fun w => by go_simp) ?_
      try simp only [List.setIfInBounds_toArray, List.set_cons_zero, List.set_cons_succ]
      refine take_p 19 39 (.pointer (some ⟨ga, j2 + 1, none⟩)) rfl rfl (by kernel_rfl) (by kernel_rfl) (by kernel_rfl) (fun _ _ _ h => h) rfl (fun w => by go_simp) ?_
      try simp only [List.setIfInBounds_toArray, List.set_cons_zero, List.set_cons_succ]
      refine take_f 20 40 (.int .u64 (y1 : Int)) [23, 24, 25, 26, 27, 28, 29] rfl rfl (by kernel_rfl) (by kernel_rfl) (by kernel_rfl) (by kernel_rfl) (by kernel_rfl) (by kernel_rfl) (fun _ _ _ h => h) rfl (fun w hSw => by have h1 := (CA.out w hSw).1; have h2 := (CA.out w hSw).2; go_simp) hS ?_
      try simp only [List.setIfInBounds_toArray, List.set_cons_zero, List.set_cons_succ]
      refine take_p 21 41 (.pointer (some ⟨w.heap.size, 1, none⟩)) rfl rfl (by kernel_rfl) (by kernel_rfl) (by kernel_rfl) (fun _ _ _ h => h) rfl (fun w => by go_simp) ?_
      try simp only [List.setIfInBounds_toArray, List.set_cons_zero, List.set_cons_succ]
      refine take_f 22 42 (.int .u64 (d1 : Int)) [23, 24, 25, 26, 27, 28, 29] rfl rfl (by kernel_rfl) (by kernel_rfl) (by kernel_rfl) (by kernel_rfl) (by kernel_rfl) (by kernel_rfl) (fun _ _ _ h => h) rfl (fun w hSw => by have h1 := (CD.out w hSw).1; have h2 := (CD.out w hSw).2; go_simp) hS ?_
      try simp only [List.setIfInBounds_toArray, List.set_cons_zero, List.set_cons_succ]
      refine take_p 23 43 (.int .u64 (x1 : Int)) rfl rfl (by kernel_rfl) (by kernel_rfl) (by kernel_rfl) (fun _ _ _ h => h) rfl (fun w => by go_simp) ?_
      try simp only [List.setIfInBounds_toArray, List.set_cons_zero, List.set_cons_succ]
      refine take_p 24 44 (.agg #[.int .u64 (x0 : Int), .int .u64 (x1 : Int)]) rfl rfl (by kernel_rfl) (by kernel_rfl) (by kernel_rfl) (fun _ _ _ h => h) rfl (fun w => by go_simp) ?_
      try simp only [List.setIfInBounds_toArray, List.set_cons_zero, List.set_cons_succ]
      refine ready_f 6 (o := { dst := some 26, op := Op.call { callee := Callee.value (Operand.func 9), args := #[Operand.tmp 21, Operand.tmp 25], argTypes := #[22, 24] }, type := 28, pos := "ref.go:40", after := #[{ on := 1, ground := Ground.data }, { on := 5, ground := Ground.data }], guard := none }) (by kernel_rfl) rfl (fun K hK => ?_)
      go_simp
      refine (KH.out _).mono ?_
      rintro e w1 ⟨rfl, hb1⟩
      have hS1 := hS.trans (hb1.mono hS.size)
      refine hK.out _ _ (fun _ _ => hS1) ?_
      clear hb1
      clear hK K
      try simp only [Act.put, List.setIfInBounds_toArray, List.set_cons_zero, List.set_cons_succ]
      refine ready_f 25 (o := { dst := some 45, op := Op.call { callee := Callee.value (Operand.func 9), args := #[Operand.tmp 27, Operand.tmp 44], argTypes := #[22, 24] }, type := 28, pos := "ref.go:40", after := #[{ on := 7, ground := Ground.data }, { on := 24, ground := Ground.data }, { on := 6, ground := Ground.chain }], guard := none }) (by kernel_rfl) rfl (fun K hK => ?_)
      go_simp
      refine (KH2.out _).mono ?_
      rintro e w5 ⟨rfl, hb5⟩
      have hS5 := hS1.trans (hb5.mono hS1.size)
      refine hK.out _ _ (fun _ _ => hS5) ?_
      clear hb5
      clear hK K
      try simp only [Act.put, List.setIfInBounds_toArray, List.set_cons_zero, List.set_cons_succ]
      refine take_p 26 46 (.agg (u8s (s ++ t)).toArray) rfl rfl (by kernel_rfl) (by kernel_rfl) (by kernel_rfl) (fun _ _ _ h => h) rfl (fun w => by exact exec_rpair _ _ rfl rfl rfl HSL.out.1 HSL.out.2) ?_
      try simp only [List.setIfInBounds_toArray, List.set_cons_zero, List.set_cons_succ]
      refine ready_f 27 (o := { dst := some 47, op := Op.buildSlice 33 1 #[(0, Operand.tmp 46)], type := 33, pos := "ref.go:40", after := #[{ on := 26, ground := Ground.data }], guard := none }) (by kernel_rfl) rfl (fun K hK => ?_)
      rw [if_pos (by rfl)]
      unfold Oper.wp
      rw [exec_build_rpair (s := s) (t := t) _ rfl rfl HSL.out.1 HSL.out.2]
      generalize hU : World.alloc _ _ = U
      have hU0 : U.heap[w5.heap.size]? = some (row8 56 (s ++ t)) := by rw [← hU]; exact heap_alloc_new _ _
      have hS3 := hS5.trans ((show Below w5.heap.size w5 U by rw [← hU]; exact (Below.refl _ _).alloc (Nat.le_refl _) _).mono hS5.size)
      clear hU
      refine hK.out _ _ (fun _ _ => hS3) ?_
      clear hK K
      try simp only [Act.put, List.setIfInBounds_toArray, List.set_cons_zero, List.set_cons_succ]
      have RO3 := hide1 (own_below HRO.out hS3)
      have hz8 := hS3.size
      have hz9 := HE.out.size
      have hz7 := lt_heap R0.out
      refine ready_f 28 (o := { dst := some 48, op := Op.call { callee := Callee.builtin Builtin.append, args := #[Operand.tmp 20, Operand.tmp 47], argTypes := #[33, 33] }, type := 33, pos := "ref.go:40", after := #[{ on := 0, ground := Ground.data }, { on := 27, ground := Ground.data }, { on := 25, ground := Ground.chain }], guard := none }) (by kernel_rfl) rfl (fun K hK => ?_)
      rw [if_pos (by rfl)]
      refine wp_append_lies _ _ _ 33 rfl (w.heap.size + 1) 56 i0 (arr8 (zeros 64)) 64 64 Tryd.underlying33 hi0 hz0 hz1 hz2 (by kernel_rfl) (by decide) (.slice a3 k c3) k (u8s (flt S (2 * k))) rfl RO3.out ⟨w5.heap.size, 0, none⟩ 1 1 (u8s (s ++ t)) rfl HLs.out (World.news_of_block hU0) (u8s_one _) (by omega) (by unfold maxLen; omega) (by omega) (by omega) _ rfl ?_
      intro g8 cap8 w8 ro8 gr8 wh8 lt8
      rw [← u8s_append, HSF.out] at ro8
      have hb8 : Below (w.heap.size + 1) U w8 := (Below.refl _ _).grown gr8 (by omega) (fun k hk => (RO3.out.lt k hk).1)
      have hS6 : Below (w.heap.size + 1) wr w8 := (hS3.mono (by omega)).trans hb8
      refine hK.out _ _ (fun h => absurd (by decide) h) ?_
      clear hK K
      try simp only [Act.put, List.setIfInBounds_toArray, List.set_cons_zero, List.set_cons_succ]
      refine take_p 29 7 (.slice (some ⟨g8, 0, none⟩) (k + 1) cap8) rfl rfl (by kernel_rfl) (by kernel_rfl) (by kernel_rfl) (fun _ _ _ h => h) rfl (fun w => by go_simp) ?_
      try simp only [List.setIfInBounds_toArray, List.set_cons_zero, List.set_cons_succ]
      refine done_f (by kernel_rfl) ?_ _
      have hr8 : w8.heap[w.heap.size]? = some (row2 d0 d1) := (hS6.block _ (by omega)).trans R0.out
      have RO8 := hide1 ro8
      have HB8 := hide1 (HE.out.trans (hS6.mono (show w.heap.size ≤ w.heap.size + 1 by omega)))
      have R8 := hide1 (hr8)
      clear ro8 hr8
      go_wp2
      go_roundw
      case rel => exact ⟨k + 1, by omega, by go_num, ⟨_, _, rfl⟩, RO8.out, R8.out, HB8.out⟩
      case measure => simp [intOf]; omega
    · obtain rfl : k = m := by omega
      have HRO := hide1 hro
      have HE := hide1 hbe
      clear hro hbe hr0
      go_wp2
      go_ret
      exact ⟨_, _, rfl, pd_own HG.out HRO.out, HE.out⟩
end Go.Proofs.YtlkkninnfiaedaaDoor.Ro
