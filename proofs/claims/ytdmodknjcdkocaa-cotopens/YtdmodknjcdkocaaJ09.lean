/- What is wrong with a stream; Stream. The walk of ChachaGoesOn. Nonce; the walk of ChachaNonces. -/
import Derived.Test.YtdmodknjcdkocaaJ08
import Derived.Test.YtdmodknjcdkocaaJ02
namespace Go.Proofs.Ytdmodknjcdkocaa.Pg
open Go.RowKit
set_option maxRecDepth 100000
attribute [local go_sem] not_any

def errP (z c : Nat) (n : Int) : Int := if z ≠ 12 then 11 else if n < 0 ∨ 65536 < n then 2 else if 4294967296 < c + need n.toNat then 24 else 0
theorem err_shape {z c : Nat} {n : Int} (h : z ≠ 12) : errP z c n = 11 := if_pos h
theorem err_limit {z c : Nat} {n : Int} (h : z = 12) (h2 : n < 0 ∨ 65536 < n) : errP z c n = 2 := by
  rw [errP, if_neg (by omega), if_pos h2]
theorem err_count {z c N : Nat} (h : z = 12) (h2 : N ≤ 65536) (h3 : 4294967296 < c + need N) : errP z c (N : Int) = 24 := by
  rw [errP, if_neg (by omega), if_neg (by omega), Int.toNat_natCast, if_pos h3]
theorem err_none {z c N : Nat} (h : z = 12) (h2 : N ≤ 65536) (h3 : c + need N ≤ 4294967296) : errP z c (N : Int) = 0 := by
  rw [errP, if_neg (by omega), if_neg (by omega), Int.toNat_natCast, if_neg (by omega)]

theorem blocks_of (N : Nat) (w : World) (h : N ≤ 65536) :
    Calls Try.prog 63 #[.int .i64 (N : Int)] w fun e w' => e = .returned (.int .u64 (need N : Nat)) ∧ w' = w := by
  obtain ⟨m, hm⟩ : ∃ v, v = N + 63 := ⟨_, rfl⟩
  obtain ⟨d, hd⟩ : ∃ v, v = need N := ⟨_, rfl⟩
  obtain ⟨m1, hm1⟩ : ∃ v, v = N + 64 := ⟨_, rfl⟩
  have f1 : (N : Int) + 64 = (m1 : Int) := by omega
  have f2 : (m1 : Int) - 1 = (m : Int) := by omega
  have f3 : (m : Int) / 64 = (d : Int) := by rw [hd, hm]; unfold need; omega
  have b1 : (m1 : Int) ≤ 70000 := by omega
  have b2 : (m : Int) ≤ 70000 := by omega
  have b3 : (d : Int) ≤ 70000 := by rw [← f3]; omega
  rw [← hd]
  clear hm hd hm1
  go_enter Try.func63, Try.ntmps63
  go_wp2
  go_ret
  exact ⟨rfl, rfl⟩

set_option maxHeartbeats 1000000 in
theorem wrong_any (s : ByteArray) (c : Nat) (n : Int) (w : World) (hc : c < 4294967296) :
    Calls Try.prog 58 #[.string s, .int .u32 (c : Int), .int .i64 n] w fun e w' => e = .returned (.int .i64 (errP s.size c n)) ∧ w' = w := by
  by_cases hs : s.size = 12
  · have h1 : ((s.size : Int) != 12) = false := by rw [bne_eq_false_iff_eq]; omega
    by_cases hn : n < 0
    · rw [err_limit hs (.inl hn)]
      go_enter Try.func58, Try.ntmps58
      go_wp2
      go_ret
      exact ⟨rfl, rfl⟩
    · by_cases hn2 : 65536 < n
      · rw [err_limit hs (.inr hn2)]
        have hn3 : decide (n < 0) = false := by simp; omega
        go_enter Try.func58, Try.ntmps58
        go_wp2
        go_ret
        exact ⟨rfl, rfl⟩
      · obtain ⟨N, rfl⟩ := Int.eq_ofNat_of_zero_le (show 0 ≤ n by omega)
        have hN : N ≤ 65536 := by omega
        have hNi : (N : Int) ≤ 65536 := by omega
        have kb := fun w => hide1 (blocks_of N w hN)
        have hnb : need N ≤ 1100 := by unfold need; omega
        by_cases h3 : 4294967296 < c + need N
        · rw [err_count hs hN h3]
          generalize need N = d at *
          have h4 : (4294967296 : Int) < (c : Int) + (d : Int) := by omega
          have h5 : (c : Int) + (d : Int) < 4294970000 := by omega
          go_enter Try.func58, Try.ntmps58
          go_wp2_with (go_at_call 63; refine (kb _).out.mono ?_; rintro e w' ⟨rfl, rfl⟩)
          go_ret
          exact ⟨rfl, rfl⟩
        · rw [err_none hs hN (by omega)]
          generalize need N = d at *
          have h4 : (c : Int) + (d : Int) ≤ 4294967296 := by omega
          go_enter Try.func58, Try.ntmps58
          go_wp2_with (go_at_call 63; refine (kb _).out.mono ?_; rintro e w' ⟨rfl, rfl⟩)
          go_ret
          exact ⟨rfl, rfl⟩
  · rw [err_shape hs]
    have h1 : ((s.size : Int) != 12) = true := by rw [bne_iff_ne]; omega
    go_enter Try.func58, Try.ntmps58
    go_wp2
    go_ret
    exact ⟨rfl, rfl⟩

/- what Stream answers: the text and the number -/
def outP (kl : List Nat) (s : ByteArray) (c : Nat) (n : Int) : ByteArray := if errP s.size c n = 0 then txt (streamP kl (nums s) c n.toNat) else ByteArray.empty

theorem err_zero {z c : Nat} {n : Int} (h : errP z c n = 0) : ∃ N : Nat, n = (N : Int) ∧ z = 12 ∧ N ≤ 65536 ∧ c + need N ≤ 4294967296 := by
  by_cases h1 : z = 12
  · by_cases h2 : n < 0 ∨ 65536 < n
    · rw [err_limit h1 h2] at h; cases h
    · obtain ⟨N, rfl⟩ := Int.eq_ofNat_of_zero_le (show 0 ≤ n by omega)
      by_cases h3 : 4294967296 < c + need N
      · rw [err_count h1 (by omega) h3] at h; cases h
      · exact ⟨N, rfl, h1, by omega, by omega⟩
  · rw [err_shape h1] at h; cases h

set_option maxHeartbeats 1000000 in
theorem stream_any (kl : List Nat) (s : ByteArray) (c : Nat) (n : Int) (w : World) (hk : kl.length = 32) (bk : Lt 256 kl) (hc : c < 4294967296) :
    Calls Try.prog 53 #[arr8 kl, .string s, .int .u32 (c : Int), .int .i64 n] w fun e w' => e = .returned (.tuple #[.string (outP kl s c n), .int .i64 (errP s.size c n)]) ∧ Below w.heap.size w w' := by
  have kw := fun w => hide1 (wrong_any s c n w hc)
  by_cases he : errP s.size c n = 0
  · obtain ⟨N, rfl, hs, hN, hcn⟩ := err_zero he
    have hO : outP kl s c (N : Int) = txt (streamP kl (nums s) c N) := by rw [outP, if_pos he, Int.toNat_natCast]
    have kb := fun w => hide1 (bytesOf_any kl s c N w hk bk hs hc hN hcn)
    rw [he] at kw
    rw [he, hO]
    have Hl : Shy ((streamP kl (nums s) c N).length = N) := ⟨streamP_length _ _ _ _⟩
    have Hz : Hid ((u8s kl).toArray.size = 32) := by show _ = _; simp [u8s, hk]
    obtain ⟨tx, htx⟩ : ∃ tx, tx = txt (streamP kl (nums s) c N) := ⟨_, rfl⟩
    rw [← htx]
    have HT : Shy (tx = txt (streamP kl (nums s) c N)) := ⟨htx⟩
    clear he hs hcn hO hk bk hc htx
    unfold arr8 at kb ⊢
    go_enter Try.func53, Try.ntmps53
    go_upto_region 1 with (fail)
    generalize hX : World.alloc w _ = X
    have x0 : X.heap[w.heap.size]? = some (row8 46 kl) := by rw [← hX]; exact heap_alloc_new _ _
    have xb : Below w.heap.size w X := by rw [← hX]; exact (Below.refl _ _).alloc (Nat.le_refl _) _
    have X0 := hide1 x0
    have XB := hide1 xb
    clear hX x0 xb
    go_wp2_with (first | (go_at_call 58; refine (kw _).out.mono ?_; rintro e w' ⟨rfl, rfl⟩) | (refine wpList_load_row rfl 46 (.tmp 4) rfl w.heap.size rfl 46 (u8s kl).toArray (0, 0) _ X0.out Try.underlying46 rfl (by rw [Hz.out]; kernel_rfl) ?_) | fail)
    go_at_call 59
    refine (kb _).out.mono ?_
    rintro e w1 ⟨rfl, h1, hb1⟩
    have hcv := conv_row (cap := N) h1
    rw [Hl.out, ← HT.out] at hcv
    have B1 := hide1 (XB.out.trans (hb1.mono XB.out.size))
    clear h1 hb1 kb kw
    go_wp2
    go_ret2
    exact ⟨rfl, B1.out⟩
  · have hO : outP kl s c n = ByteArray.empty := by rw [outP, if_neg he]
    rw [hO]
    generalize errP s.size c n = en at *
    have he' : (en != 0) = true := by rw [bne_iff_ne]; exact he
    clear hO hk bk hc he
    unfold arr8
    go_enter Try.func53, Try.ntmps53
    go_wp2_with (first | (go_at_call 58; refine (kw _).out.mono ?_; rintro e w' ⟨rfl, rfl⟩) | fail)
    go_ret2
    exact ⟨rfl, (Below.refl _ _).alloc (Nat.le_refl _) _⟩
end Go.Proofs.Ytdmodknjcdkocaa.Pg

namespace Go.Proofs.Ytdmodknjcdkocaa.Pg
open Go.RowKit
set_option maxRecDepth 100000
attribute [local go_sem] not_any

theorem nums_inj {a b : ByteArray} (h : nums a = nums b) : a = b := by
  obtain ⟨⟨la⟩⟩ := a
  obtain ⟨⟨lb⟩⟩ := b
  have h2 : la.map (fun b : UInt8 => b.toNat) = lb.map (fun b : UInt8 => b.toNat) := h
  have h3 : la = lb := by
    refine (List.map_inj_right ?_).1 h2
    intro x y hxy
    exact UInt8.toNat_inj.1 hxy
  rw [h3]
theorem txt_size {l : List Nat} (h : Lt 256 l) : (txt l).size = l.length := nums_size (nums_txt h)

end Go.Proofs.Ytdmodknjcdkocaa.Pg

namespace Go.Proofs.Ytdmodknjcdkocaa.Pg
open Go.RowKit
set_option maxRecDepth 100000
attribute [local go_sem] not_any

def nonceP (x y : Nat) : List Nat := setB (setB (setB (zeros 12) 0 x 4) 4 (y % 4294967296) 4) 8 (y / 4294967296 % 4294967296) 4
theorem nonceP_length (x y : Nat) : (nonceP x y).length = 12 := by rw [nonceP, setB_length, setB_length, setB_length, zeros_length]
theorem zeros_lt (n : Nat) : Lt 256 (zeros n) := lt_replicate (by omega) n
theorem nonceP_lt (x y : Nat) : Lt 256 (nonceP x y) := setB_lt (setB_lt (setB_lt (zeros_lt 12) _ _ _) _ _ _) _ _ _

set_option maxHeartbeats 1000000 in
theorem nonce_any (x y : Nat) (w : World) (hy : y < 18446744073709551616) :
    Calls Try.prog 54 #[.int .u32 (x : Int), .int .u64 (y : Int)] w fun e w' => e = .returned (.string (txt (nonceP x y))) ∧ Below w.heap.size w w' := by
  obtain ⟨y0, hy0⟩ : ∃ v, v = y % 4294967296 := ⟨_, rfl⟩
  obtain ⟨y1, hy1⟩ : ∃ v, v = y / 4294967296 % 4294967296 := ⟨_, rfl⟩
  have e0 : IntKind.u32.wrap (y : Int) = (y0 : Int) := by rw [wrap32, hy0]
  have e0' : (y : Int) % 4294967296 = (y0 : Int) := by omega
  have e1 : (y : Int) / 4294967296 % 4294967296 = (y1 : Int) := by omega
  have e1' : (y : Int) / 4294967296 = (y1 : Int) := by omega
  have e1'' : IntKind.u32.wrap (y1 : Int) = (y1 : Int) := by rw [IntKind.wrap_u32]; omega
  have HP : Shy (nonceP x y = setB (setB (setB (zeros 12) 0 x 4) 4 y0 4) 8 y1 4) := ⟨by rw [nonceP, hy0, hy1]⟩
  have HB1 : Shy (y1 < 4294967296) := ⟨by omega⟩
  clear hy0 hy1
  have HL : Shy ((nonceP x y).length = 12) := ⟨nonceP_length x y⟩
  go_enter Try.func54, Try.ntmps54
  go_wp2_with fail
  generalize hW : World.alloc w _ = W
  have h1 : W.heap[w.heap.size]? = some (row8 90 (zeros 12)) := by rw [← hW]; exact heap_alloc_new _ _
  have h3 : Below w.heap.size w W := by rw [← hW]; exact (Below.refl _ _).alloc (Nat.le_refl _) _
  have H3 := hide1 h3
  clear hW h3
  go_at_call 60
  refine (put_any (zeros 12) x w.heap.size 0 12 12 90 W h1 (by omega) (by decide)).mono ?_
  rintro e w1 ⟨rfl, hw1⟩
  have h2 : w1.heap[w.heap.size]? = some (row8 90 (setB (zeros 12) 0 x 4)) := by rw [hw1]; exact setRow_heap _ _ _ _ _ _ h1
  have b1 : Below w.heap.size w w1 := by rw [hw1]; exact Below.setRow' H3.out (Nat.le_refl _) _
  have B1 := hide1 b1
  clear hw1 h1 b1
  go_wp2_with fail
  go_at_call 60
  refine (put_any _ y0 w.heap.size 4 8 8 90 w1 h2 (by omega) (by rw [setB_length]; decide)).mono ?_
  rintro e w2 ⟨rfl, hw2⟩
  have h4 : w2.heap[w.heap.size]? = some (row8 90 (setB (setB (zeros 12) 0 x 4) 4 y0 4)) := by rw [hw2]; exact setRow_heap _ _ _ _ _ _ h2
  have b2 : Below w.heap.size w w2 := by rw [hw2]; exact Below.setRow' B1.out (Nat.le_refl _) _
  have B2 := hide1 b2
  clear hw2 h2 b2
  go_wp2_with fail
  go_at_call 60
  refine (put_any _ y1 w.heap.size 8 4 4 90 w2 h4 (by omega) (by rw [setB_length, setB_length]; decide)).mono ?_
  rintro e w3 ⟨rfl, hw3⟩
  have h5 : w3.heap[w.heap.size]? = some (row8 90 (nonceP x y)) := by rw [hw3, HP.out]; exact setRow_heap _ _ _ _ _ _ h4
  have b3 : Below w.heap.size w w3 := by rw [hw3]; exact Below.setRow' B2.out (Nat.le_refl _) _
  have B3 := hide1 b3
  have hcv := conv_row (cap := 12) h5
  rw [HL.out] at hcv
  clear hw3 h4 b3 h5
  obtain ⟨tx, htx⟩ : ∃ tx, tx = txt (nonceP x y) := ⟨_, rfl⟩
  rw [← htx] at hcv
  have HX : Shy (tx = txt (nonceP x y)) := ⟨htx⟩
  clear htx
  go_wp2
  go_ret
  exact ⟨by rw [← HX.out]; rfl, B3.out⟩

/- bytes as a number, from the place top down -/
end Go.Proofs.Ytdmodknjcdkocaa.Pg
