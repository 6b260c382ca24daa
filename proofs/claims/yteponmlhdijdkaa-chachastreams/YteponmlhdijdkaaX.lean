/- Texts mixed with streams: Mix, and the document's. -/
import Derived.Test.YteponmlhdijdkaaW
import Derived.Laws.BytesArg
namespace Go.Proofs.Yteponmlhdijdkaa
open Go.RowKit
set_option maxRecDepth 100000
attribute [local go_sem] not_any

/- the first k told anew -/
def told (f : Nat → Nat) (l : List Nat) (k : Nat) : List Nat := (List.range l.length).map (fun i => if i < k then f i else at0 l i)
theorem told_length (f : Nat → Nat) (l : List Nat) (k : Nat) : (told f l k).length = l.length := by simp [told]
theorem told_zero (f : Nat → Nat) (l : List Nat) : told f l 0 = l :=
  at0_ext (by simp [told]) (fun i hi => by rw [told_length] at hi; rw [told, at0_map_range hi]; simp)
theorem at0_told {f : Nat → Nat} {l : List Nat} {k i : Nat} (h : i < l.length) : at0 (told f l k) i = if i < k then f i else at0 l i := at0_map_range h
theorem at0_set {l : List Nat} {i j x : Nat} (h : i < l.length) : at0 (l.set i x) j = if i = j then x else at0 l j := by
  by_cases e : i = j
  · subst e; simp [at0, h]
  · simp [at0, e]
theorem told_succ (f : Nat → Nat) (l : List Nat) {k : Nat} (h : k < l.length) : told f l (k + 1) = (told f l k).set k (f k) := by
  refine at0_ext (by simp [told]) (fun i hi => ?_)
  rw [told_length] at hi
  rw [at0_told hi, at0_set (by rw [told_length]; exact h), at0_told hi]
  by_cases e : k = i
  · subst e; simp
  · have : (i < k + 1) ↔ i < k := by omega
    simp [e, this]
theorem told_all {f : Nat → Nat} {l : List Nat} {n : Nat} (h : l.length = n) : told f l n = (List.range n).map f := by
  rw [told, h]
  apply List.map_congr_left
  intro i hi
  rw [if_pos (List.mem_range.1 hi)]


/- two lists, exclusive or -/
def xr (l m : List Nat) : List Nat := (List.range l.length).map (fun i => at0 l i ^^^ at0 m i)
def xrT (l m : List Nat) (k : Nat) : List Nat := (List.range k).map (fun i => at0 l i ^^^ at0 m i)
theorem xr_length (l m : List Nat) : (xr l m).length = l.length := by simp [xr]
theorem xrT_length (l m : List Nat) (k : Nat) : (xrT l m k).length = k := by simp [xrT]
theorem xrT_succ (l m : List Nat) (k : Nat) : xrT l m (k + 1) = xrT l m k ++ [at0 l k ^^^ at0 m k] := by simp [xrT, List.range_succ]
theorem xor8_lt {a b : Nat} (ha : a < 256) (hb : b < 256) : a ^^^ b < 256 := Nat.xor_lt_two_pow (n := 8) ha hb
theorem xr_lt {l m : List Nat} (hl : Lt 256 l) (hm : Lt 256 m) : Lt 256 (xr l m) := by
  intro x hx
  simp only [xr, List.mem_map] at hx
  obtain ⟨i, _, rfl⟩ := hx
  exact xor8_lt (hl.at (by omega) i) (hm.at (by omega) i)
theorem xr_twice {l m : List Nat} (h : l.length = m.length) : xr l (xr l m) = m := by
  refine at0_ext (by rw [xr_length, h]) (fun i hi => ?_)
  rw [xr_length] at hi
  rw [xr, at0_map_range hi, xr, at0_map_range hi, ← Nat.xor_assoc, Nat.xor_self, Nat.zero_xor]

/- what Mix answers -/
def mixP (kl : List Nat) (s : ByteArray) (c : Nat) (t : ByteArray) : ByteArray := if errP s.size c (t.size : Int) = 0 then txt (xr (streamP kl (nums s) c t.size) (nums t)) else ByteArray.empty

set_option maxHeartbeats 2000000 in
theorem mix_any (kl : List Nat) (s : ByteArray) (c : Nat) (t : ByteArray) (w : World) (hk : kl.length = 32) (bk : Lt 256 kl) (hc : c < 4294967296) :
    Calls Try.prog 16 #[arr8 kl, .string s, .int .u32 (c : Int), .string t] w fun e w' => e = .returned (.tuple #[.string (mixP kl s c t), .int .i64 (errP s.size c (t.size : Int))]) ∧ Below w.heap.size w w' := by
  have kw := fun w => hide1 (wrong_any s c (t.size : Int) w hc)
  by_cases he : errP s.size c (t.size : Int) = 0
  · obtain ⟨N, hNt, hs, hN, hcn⟩ := err_zero he
    obtain rfl : N = t.size := by omega
    obtain ⟨N, hNd⟩ : ∃ N, N = t.size := ⟨_, rfl⟩
    have hO : mixP kl s c t = txt (xr (streamP kl (nums s) c N) (nums t)) := by rw [mixP, if_pos he, hNd]
    rw [← hNd] at hN hcn
    have kb := fun w => hide1 (bytesOf_any kl s c N w hk bk hs hc hN hcn)
    rw [he] at kw
    rw [he, hO]
    have HSl : Shy ((streamP kl (nums s) c N).length = N) := ⟨streamP_length _ _ _ _⟩
    have HSt := hide1 (streamP_lt kl (nums s) c N)
    have HTl := hide1 (nums_lt t)
    have Hz : Hid ((u8s kl).toArray.size = 32) := by show _ = _; simp [u8s, hk]
    obtain ⟨tx, htx⟩ : ∃ tx, tx = txt (xr (streamP kl (nums s) c N) (nums t)) := ⟨_, rfl⟩
    rw [← htx]
    have HT : Shy (tx = txt (xr (streamP kl (nums s) c N) (nums t))) := ⟨htx⟩
    have hts : t.size = N := hNd.symm
    have hNi : (N : Int) ≤ 65536 := by omega
    rw [hts] at kw
    clear he hs hcn hO hk bk hc htx hNd hNt
    generalize streamP kl (nums s) c N = l at *
    unfold arr8 at kb ⊢
    go_enter Try.func16, Try.ntmps16
    go_upto_region 1 with (fail)
    generalize hX : World.alloc w _ = X
    have x0 : X.heap[w.heap.size]? = some (row8 31 kl) := by rw [← hX]; exact heap_alloc_new _ _
    have xb : Below w.heap.size w X := by rw [← hX]; exact (Below.refl _ _).alloc (Nat.le_refl _) _
    have X0 := hide1 x0
    have XB := hide1 xb
    clear hX x0 xb
    go_wp2_with (first | (go_at_call 24; refine (kw _).out.mono ?_; rintro e w' ⟨rfl, hw⟩; cases hw) | (refine wpList_load_row rfl 31 (.tmp 4) rfl w.heap.size rfl 31 (u8s kl).toArray (0, 0) _ X0.out Try.underlying31 rfl (by rw [Hz.out]; kernel_rfl) ?_) | fail)
    go_at_call 25
    refine (kb _).out.mono ?_
    rintro e w1 ⟨rfl, h1, hb1⟩
    have B1 := hide1 (XB.out.trans (hb1.mono XB.out.size))
    have HB1 : Hid (w.heap.size ≤ X.heap.size + 1) := by show _ ≤ _; have := XB.out.size; omega
    obtain ⟨gb, hgb⟩ : ∃ v, v = X.heap.size + 1 := ⟨_, rfl⟩
    rw [← hgb] at h1 HB1 ⊢
    have H1 := hide1 h1
    clear h1 hb1 kb kw hgb X0 XB
    go_wp2
    go_loopw [29] (fun i wr => ∃ k : Nat, k ≤ N ∧ i = .int .i64 k ∧ wr.heap[gb]? = some (row8 5 (told (fun i => at0 l i ^^^ at0 (nums t) i) l k)) ∧ Below w.heap.size w wr) (fun i _ => N - (intOf i).toNat)
    case atStart => exact ⟨0, Nat.zero_le _, rfl, by rw [told_zero]; exact H1.out, B1.out⟩
    case round =>
      obtain ⟨k, hk, rfl, hrow, hbe⟩ := hrel
      by_cases hlt : k < N
      · have cu := cell8 hrow (j := k) (by rw [told_length, HSl.out]; exact hlt)
        rw [at0_told (by rw [HSl.out]; exact hlt), if_neg (Nat.lt_irrefl _)] at cu
        have fu := frozen_of_row wr gb k _ _ hrow
        have HS : Shy (told (fun i => at0 l i ^^^ at0 (nums t) i) l (k + 1) = (told (fun i => at0 l i ^^^ at0 (nums t) i) l k).set k (at0 l k ^^^ at0 (nums t) k)) := ⟨told_succ _ l (by rw [HSl.out]; exact hlt)⟩
        have bu := HSt.out.at (by omega) k
        have bv := HTl.out.at (by omega) k
        have hix := run_index t k (by omega)
        generalize at0 l k = u at *
        generalize at0 (nums t) k = v at *
        obtain ⟨x, hx⟩ : ∃ x, x = u ^^^ v := ⟨_, rfl⟩
        have ex : bits .xor .u8 (u : Int) (v : Int) = (x : Int) := by rw [hx]; exact u8_xor_nat _ _ bu bv
        rw [← hx] at HS
        have hki : (k : Int) < (N : Int) := by omega
        have HRR := hide1 hrow
        have HE := hide1 hbe
        clear hrow hbe hx
        go_upto_region 8 with (fail)
        refine region_f (F := [9]) (S := fun w' => w'.cell? ⟨gb, k, none⟩ = some (.int .u8 (u : Int))) (by kernel_rfl) cu (fun hS => ?_)
        refine take_p 0 32 (.slice (some ⟨gb, 0, none⟩) N N) rfl rfl (by kernel_rfl) (by kernel_rfl) (by kernel_rfl) (fun _ _ _ h => h) rfl (fun w => by go_simp) ?_
        try simp only [List.setIfInBounds_toArray, List.set_cons_zero, List.set_cons_succ]
        refine take_p 1 33 (.int .i64 (k : Int)) rfl rfl (by kernel_rfl) (by kernel_rfl) (by kernel_rfl) (fun _ _ _ h => h) rfl (fun w => by go_simp) ?_
        try simp only [List.setIfInBounds_toArray, List.set_cons_zero, List.set_cons_succ]
        refine take_p 2 34 (.pointer (some ⟨gb, k, none⟩)) rfl rfl (by kernel_rfl) (by kernel_rfl) (by kernel_rfl) (fun _ _ _ h => h) rfl (fun w => by go_simp) ?_
        try simp only [List.setIfInBounds_toArray, List.set_cons_zero, List.set_cons_succ]
        refine take_f 3 35 (.int .u8 (u : Int)) [7, 8, 9] rfl rfl (by kernel_rfl) (by kernel_rfl) (by kernel_rfl) (by kernel_rfl) (by kernel_rfl) (by kernel_rfl) (fun _ _ _ h => h) rfl (fun w hSw => by have h1 := hSw; clear hSw; go_simp) hS ?_
        try simp only [List.setIfInBounds_toArray, List.set_cons_zero, List.set_cons_succ]
        refine take_p 4 36 (.string t) rfl rfl (by kernel_rfl) (by kernel_rfl) (by kernel_rfl) (fun _ _ _ h => h) rfl (fun w => by go_simp) ?_
        try simp only [List.setIfInBounds_toArray, List.set_cons_zero, List.set_cons_succ]
        refine take_p 5 37 (.int .i64 (k : Int)) rfl rfl (by kernel_rfl) (by kernel_rfl) (by kernel_rfl) (fun _ _ _ h => h) rfl (fun w => by go_simp) ?_
        try simp only [List.setIfInBounds_toArray, List.set_cons_zero, List.set_cons_succ]
        refine take_p 6 38 (.int .u8 (v : Int)) rfl rfl (by kernel_rfl) (by kernel_rfl) (by kernel_rfl) (fun _ _ _ h => h) rfl (fun w => by have h1 := hix; go_simp) ?_
        try simp only [List.setIfInBounds_toArray, List.set_cons_zero, List.set_cons_succ]
        refine take_p 7 39 (.int .u8 (x : Int)) rfl rfl (by kernel_rfl) (by kernel_rfl) (by kernel_rfl) (fun _ _ _ h => h) rfl (fun w => by go_simp) ?_
        try simp only [List.setIfInBounds_toArray, List.set_cons_zero, List.set_cons_succ]
        refine take_p 8 40 (.pointer (some ⟨gb, k, none⟩)) rfl rfl (by kernel_rfl) (by kernel_rfl) (by kernel_rfl) (fun _ _ _ h => h) rfl (fun w => by go_simp) ?_
        try simp only [List.setIfInBounds_toArray, List.set_cons_zero, List.set_cons_succ]
        refine ready_f 9 (o := { dst := none, op := Op.store 5 (Operand.tmp 40) (Operand.tmp 39), type := 0, pos := "chacha.go:48", after := #[{ on := 8, ground := Ground.data }, { on := 7, ground := Ground.data }, { on := 0, ground := Ground.phase }, { on := 1, ground := Ground.phase }, { on := 2, ground := Ground.phase }, { on := 3, ground := Ground.phase }, { on := 4, ground := Ground.phase }, { on := 5, ground := Ground.phase }, { on := 6, ground := Ground.phase }, { on := 7, ground := Ground.phase }], guard := none }) (by kernel_rfl) rfl (fun K hK => ?_)
        go_simp
        refine hK.out _ _ (fun h => absurd (by decide) h) ?_
        clear hK K
        refine done_f (by kernel_rfl) ?_ _
        clear hS cu fu hix
        go_wp2
        go_roundw
        case rel =>
          refine ⟨k + 1, by omega, by go_num, ?_, ?_⟩
          · show (wr.setCell _ _).heap[_]? = _
            rw [set8 HRR.out, HS.out]
          · exact (HE.out.setCell (p := ⟨gb, k, none⟩) HB1.out _).drew
        case measure => simp [intOf]; omega
      · have : k = N := by omega
        subst this
        rw [told_all HSl.out] at hrow
        have hrow' : wr.heap[gb]? = some (row8 5 (xr l (nums t))) := by rw [xr, HSl.out]; exact hrow
        have hcv := conv_row (cap := k) hrow'
        rw [xr_length, HSl.out, ← HT.out] at hcv
        have HE := hide1 hbe
        clear hrow hrow' hbe
        go_wp2
        go_ret2
        exact ⟨rfl, HE.out⟩
  · have hO : mixP kl s c t = ByteArray.empty := by rw [mixP, if_neg he]
    rw [hO]
    generalize errP s.size c (t.size : Int) = en at *
    have he' : (en != 0) = true := by rw [bne_iff_ne]; exact he
    clear hO hk bk hc he
    unfold arr8
    go_enter Try.func16, Try.ntmps16
    go_wp2_with (first | (go_at_call 24; refine (kw _).out.mono ?_; rintro e w' ⟨rfl, rfl⟩) | fail)
    go_ret2
    exact ⟨rfl, (Below.refl _ _).alloc (Nat.le_refl _) _⟩

theorem conv_any {base n : Nat} {a : Option Addr} {cap : Nat} {w : World} {l : List Nat} (hn : l.length = n) (h : w.ownsRow base 5 1 (.slice a n cap) n (u8s l)) :
    (convert 57 9 (.slice a n cap)).run Try.prog w = .ok (.string (txt l)) w := by
  rcases h.2 with ⟨h1, h2⟩ | ⟨g, cap', cur, h1, h2⟩
  · cases h1
    have hl : l = [] := List.eq_nil_of_length_eq_zero hn
    subst hl
    exact run_convert_bytes_nil (P := Try.prog) (w := w) 57 5 Try.underlying57 Try.underlying5 0 0 9 Try.underlying9
  · cases h1
    exact conv_own hn h

set_option maxHeartbeats 2000000 in
theorem rmix_any (kl : List Nat) (s : ByteArray) (c : Nat) (t : ByteArray) (w : World) (hk : kl.length = 32) (bk : Lt 256 kl) (hc : c < 4294967296) (htz : t.size ≤ 65536) :
    Calls Try.prog 17 #[arr8 kl, .string s, .int .u32 (c : Int), .string t] w fun e w' => e = .returned (.tuple #[.string (mixP kl s c t), .int .i64 (errP s.size c (t.size : Int))]) ∧ Below w.heap.size w w' := by
  have ks := fun w => hide1 (rstream_any kl s c (t.size : Int) w hk bk hc)
  have Hz : Hid ((u8s kl).toArray.size = 32) := by show _ = _; simp [u8s, hk]
  obtain ⟨N, hNd⟩ : ∃ N, N = t.size := ⟨_, rfl⟩
  have hts : t.size = N := hNd.symm
  by_cases he : errP s.size c (t.size : Int) = 0
  · have hO : outP kl s c (t.size : Int) = txt (streamP kl (nums s) c N) := by rw [outP, if_pos he, Int.toNat_natCast, hNd]
    have hM : mixP kl s c t = txt (xr (streamP kl (nums s) c N) (nums t)) := by rw [mixP, if_pos he, hNd]
    rw [he, hO] at ks
    rw [he, hM]
    have HSl : Shy ((streamP kl (nums s) c N).length = N) := ⟨streamP_length _ _ _ _⟩
    have HSt := hide1 (streamP_lt kl (nums s) c N)
    have HTl := hide1 (nums_lt t)
    have HNS : Shy (nums (txt (streamP kl (nums s) c N)) = streamP kl (nums s) c N) := ⟨nums_txt HSt.out⟩
    have hsz : (txt (streamP kl (nums s) c N)).size = N := by rw [txt_size HSt.out, HSl.out]
    obtain ⟨tx, htx⟩ : ∃ tx, tx = txt (xr (streamP kl (nums s) c N) (nums t)) := ⟨_, rfl⟩
    rw [← htx]
    have HT : Shy (tx = txt (xr (streamP kl (nums s) c N) (nums t))) := ⟨htx⟩
    have hN : N ≤ 65536 := by omega
    have hNi : (N : Int) ≤ 65536 := by omega
    rw [hts] at ks
    clear he hO hM hk bk hc htx hNd htz
    generalize txt (streamP kl (nums s) c N) = so at *
    generalize streamP kl (nums s) c N = lo at *
    obtain ⟨i5, hi, hz0, hz1, hz2⟩ := info_of info5
    unfold arr8 at ks ⊢
    go_enter Try.func17, Try.ntmps17
    go_upto_region 1 with (fail)
    generalize hX : World.alloc w _ = X
    have x0 : X.heap[w.heap.size]? = some (row8 31 kl) := by rw [← hX]; exact heap_alloc_new _ _
    have xb : Below w.heap.size w X := by rw [← hX]; exact (Below.refl _ _).alloc (Nat.le_refl _) _
    have X0 := hide1 x0
    have XB := hide1 xb
    clear hX x0 xb
    go_wp2_with (first | (refine wpList_load_row rfl 31 (.tmp 4) rfl w.heap.size rfl 31 (u8s kl).toArray (0, 0) _ X0.out Try.underlying31 rfl (by rw [Hz.out]; kernel_rfl) ?_) | fail)
    go_at_call 15
    refine (ks _).out.mono ?_
    rintro e U ⟨rfl, hb1⟩
    have B1 := hide1 (XB.out.trans (hb1.mono XB.out.size))
    clear hb1 ks X0 XB
    go_wp2
    go_loopw [12, 13] (fun v12 i wr => ∃ k : Nat, k ≤ N ∧ i = .int .i64 k ∧ (∃ a c, v12 = .slice a k c) ∧ wr.ownsRow U.heap.size 5 1 v12 k (u8s (xrT lo (nums t) k)) ∧ Below U.heap.size U wr) (fun _ i _ => N - (intOf i).toNat)
    case atStart => exact ⟨0, Nat.zero_le _, rfl, ⟨none, 0, rfl⟩, World.ownsRow_nil _ _ _ _, Below.refl _ _⟩
    case round =>
      obtain ⟨k, hk, rfl, ⟨a12, c12, rfl⟩, hro, hbe⟩ := hrel
      by_cases hlt : k < N
      · have hixo := run_index so k (by omega)
        have hixt := run_index t k (by omega)
        rw [HNS.out] at hixo
        have HS : Shy (xrT lo (nums t) (k + 1) = xrT lo (nums t) k ++ [at0 lo k ^^^ at0 (nums t) k]) := ⟨xrT_succ _ _ _⟩
        have bu := HSt.out.at (by omega) k
        have bv := HTl.out.at (by omega) k
        generalize at0 lo k = u at *
        generalize at0 (nums t) k = v at *
        obtain ⟨x, hx⟩ : ∃ x, x = u ^^^ v := ⟨_, rfl⟩
        have ex : bits .xor .u8 (u : Int) (v : Int) = (x : Int) := by rw [hx]; exact u8_xor_nat _ _ bu bv
        rw [← hx] at HS
        have hki : (k : Int) < (N : Int) := by omega
        have HRO := hide1 hro
        have HE := hide1 hbe
        clear hro hbe hx
        go_upto_region 8 with (fail)
        refine region_f (F := [8, 9]) (S := fun _ => True) (by kernel_rfl) trivial (fun _ => ?_)
        refine take_p 0 32 (.slice a12 k c12) rfl rfl (by kernel_rfl) (by kernel_rfl) (by kernel_rfl) (fun _ _ _ h => h) rfl (fun w => by go_simp) ?_
        try simp only [List.setIfInBounds_toArray, List.set_cons_zero, List.set_cons_succ]
        refine take_p 1 33 (.string so) rfl rfl (by kernel_rfl) (by kernel_rfl) (by kernel_rfl) (fun _ _ _ h => h) rfl (fun w => by go_simp) ?_
        try simp only [List.setIfInBounds_toArray, List.set_cons_zero, List.set_cons_succ]
        refine take_p 2 34 (.int .i64 (k : Int)) rfl rfl (by kernel_rfl) (by kernel_rfl) (by kernel_rfl) (fun _ _ _ h => h) rfl (fun w => by go_simp) ?_
        try simp only [List.setIfInBounds_toArray, List.set_cons_zero, List.set_cons_succ]
        refine take_p 3 35 (.int .u8 (u : Int)) rfl rfl (by kernel_rfl) (by kernel_rfl) (by kernel_rfl) (fun _ _ _ h => h) rfl (fun w => by have h1 := hixo; go_simp) ?_
        try simp only [List.setIfInBounds_toArray, List.set_cons_zero, List.set_cons_succ]
        refine take_p 4 36 (.string t) rfl rfl (by kernel_rfl) (by kernel_rfl) (by kernel_rfl) (fun _ _ _ h => h) rfl (fun w => by go_simp) ?_
        try simp only [List.setIfInBounds_toArray, List.set_cons_zero, List.set_cons_succ]
        refine take_p 5 37 (.int .i64 (k : Int)) rfl rfl (by kernel_rfl) (by kernel_rfl) (by kernel_rfl) (fun _ _ _ h => h) rfl (fun w => by go_simp) ?_
        try simp only [List.setIfInBounds_toArray, List.set_cons_zero, List.set_cons_succ]
        refine take_p 6 38 (.int .u8 (v : Int)) rfl rfl (by kernel_rfl) (by kernel_rfl) (by kernel_rfl) (fun _ _ _ h => h) rfl (fun w => by have h1 := hixt; go_simp) ?_
        try simp only [List.setIfInBounds_toArray, List.set_cons_zero, List.set_cons_succ]
        refine take_p 7 39 (.int .u8 (x : Int)) rfl rfl (by kernel_rfl) (by kernel_rfl) (by kernel_rfl) (fun _ _ _ h => h) rfl (fun w => by go_simp) ?_
        try simp only [List.setIfInBounds_toArray, List.set_cons_zero, List.set_cons_succ]
        refine ready_f 8 (o := { dst := some 40, op := Op.buildSlice 57 1 #[(0, Operand.tmp 39)], type := 57, pos := "ref.go:113", after := #[{ on := 7, ground := Ground.data }], guard := none }) (by kernel_rfl) rfl (fun K hK => ?_)
        go_simp
        refine hK.out _ _ (fun h => absurd (by decide) h) ?_
        clear hK K
        try simp only [Act.put, List.setIfInBounds_toArray, List.set_cons_zero, List.set_cons_succ]
        refine ready_f 9 (o := { dst := some 41, op := Op.call { callee := Callee.builtin Builtin.append, args := #[Operand.tmp 32, Operand.tmp 40], argTypes := #[57, 57] }, type := 57, pos := "ref.go:113", after := #[{ on := 0, ground := Ground.data }, { on := 8, ground := Ground.data }], guard := none }) (by kernel_rfl) rfl (fun K hK => ?_)
        refine step_append_lies _ rfl (.tmp 32) (.tmp 40) 57 rfl U.heap.size 5 i5 (.int .u8 0) 1 1 Try.underlying57 hi hz0 hz1 hz2 rfl (by decide) (.slice a12 k c12) k (u8s (xrT lo (nums t) k)) rfl ((own_heap (w := wr) rfl HRO.out).alloc _) ⟨wr.heap.size, 0, none⟩ 1 1 (u8s [x]) rfl rfl (World.news_of_block (heap_alloc_new wr.drew (row8 5 [x]))) (u8s_one _) (by omega) (by unfold maxLen; omega) (by omega) (by have := HE.out.size; have h := size_alloc wr (row8 5 [x]); show U.heap.size ≤ (wr.alloc (row8 5 [x])).heap.size; omega) _ rfl ?_
        intro g8 cap8 w8 ro8 gr8 wh8 lt8
        refine hK.out _ _ (fun h => absurd (by decide) h) ?_
        clear hK K
        try simp only [Act.put, List.setIfInBounds_toArray, List.set_cons_zero, List.set_cons_succ]
        refine take_p 10 12 (.slice (some ⟨g8, 0, none⟩) (k + 1) cap8) rfl rfl (by kernel_rfl) (by kernel_rfl) (by kernel_rfl) (fun _ _ _ h => h) rfl (fun w => by go_simp) ?_
        try simp only [List.setIfInBounds_toArray, List.set_cons_zero, List.set_cons_succ]
        refine done_f (by kernel_rfl) ?_ _
        rw [show u8s (xrT lo (nums t) k) ++ u8s [x] = u8s (xrT lo (nums t) (k + 1)) by rw [HS.out]; simp [u8s]] at ro8
        have hb8 : Below U.heap.size U w8 := (HE.out.drew.alloc HE.out.size _).grown gr8 (by have := HE.out.size; have h := size_alloc wr (row8 5 [x]); show U.heap.size ≤ (wr.alloc (row8 5 [x])).heap.size; omega) (fun k hk => (HRO.out.lt k hk).1)
        have RO8 := hide1 ro8
        have HB8 := hide1 hb8
        clear ro8 hb8 gr8 wh8 lt8 hixo hixt
        go_wp2
        go_roundw
        case rel => exact ⟨k + 1, by omega, by go_num, ⟨_, _, rfl⟩, RO8.out, HB8.out⟩
        case measure => simp [intOf]; omega
      · have : k = N := by omega
        subst this
        have exr : xrT lo (nums t) k = xr lo (nums t) := by rw [xrT, xr, HSl.out]
        rw [exr] at hro
        have hcv := conv_any (l := xr lo (nums t)) (by rw [xr_length, HSl.out]) hro
        rw [← HT.out] at hcv
        have HE := hide1 hbe
        clear hro hbe exr
        go_wp2
        go_ret2
        exact ⟨rfl, B1.out.trans (HE.out.mono B1.out.size)⟩
  · have hO : outP kl s c (t.size : Int) = ByteArray.empty := by rw [outP, if_neg he]
    have hM : mixP kl s c t = ByteArray.empty := by rw [mixP, if_neg he]
    rw [hO] at ks
    rw [hM]
    generalize errP s.size c (t.size : Int) = en at *
    have he' : (en != 0) = true := by rw [bne_iff_ne]; exact he
    rw [hts] at ks
    clear hO hM hk bk hc he htz hNd
    unfold arr8 at ks ⊢
    go_enter Try.func17, Try.ntmps17
    go_upto_region 1 with (fail)
    generalize hX : World.alloc w _ = X
    have x0 : X.heap[w.heap.size]? = some (row8 31 kl) := by rw [← hX]; exact heap_alloc_new _ _
    have xb : Below w.heap.size w X := by rw [← hX]; exact (Below.refl _ _).alloc (Nat.le_refl _) _
    have X0 := hide1 x0
    have XB := hide1 xb
    clear hX x0 xb
    go_wp2_with (first | (refine wpList_load_row rfl 31 (.tmp 4) rfl w.heap.size rfl 31 (u8s kl).toArray (0, 0) _ X0.out Try.underlying31 rfl (by rw [Hz.out]; kernel_rfl) ?_) | fail)
    go_at_call 15
    refine (ks _).out.mono ?_
    rintro e U ⟨rfl, hb1⟩
    have B1 := hide1 (XB.out.trans (hb1.mono XB.out.size))
    clear hb1 ks X0 XB
    go_wp2
    go_ret2
    exact ⟨rfl, B1.out⟩
end Go.Proofs.Yteponmlhdijdkaa
