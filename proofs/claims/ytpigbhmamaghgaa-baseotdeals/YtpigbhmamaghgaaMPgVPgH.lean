/- The walk of ChachaGoesOn. Nonce; the walk of ChachaNonces. -/
import Derived.Test.YtpigbhmamaghgaaPgU
import Derived.Test.YtpigbhmamaghgaaPgG
namespace Go.Proofs.Ytpigbhmamaghgaa.Pg
open Go.RowKit
set_option maxRecDepth 100000
attribute [local go_sem] not_any

theorem nums_inj {a b : ByteArray} (h : nums a = nums b) : a = b := by
  obtain ⟨⟨la⟩⟩ := a
  obtain ⟨⟨lb⟩⟩ := b
  have h2 : la.map (fun b : UInt8 => b.toNat) = lb.map (fun b : UInt8 => b.toNat) := h
  have h3 : la = lb := by
    refine (List.map_inj_right ?_).1 h2
    intro x y hxy
    exact UInt8.toNat_inj.1 hxy
  rw [h3]
theorem txt_size {l : List Nat} (h : Lt 256 l) : (txt l).size = l.length := nums_size (nums_txt h)

end Go.Proofs.Ytpigbhmamaghgaa.Pg

namespace Go.Proofs.Ytpigbhmamaghgaa.Pg
open Go.RowKit
set_option maxRecDepth 100000
attribute [local go_sem] not_any

def nonceP (x y : Nat) : List Nat := setB (setB (setB (zeros 12) 0 x 4) 4 (y % 4294967296) 4) 8 (y / 4294967296 % 4294967296) 4
theorem nonceP_length (x y : Nat) : (nonceP x y).length = 12 := by rw [nonceP, setB_length, setB_length, setB_length, zeros_length]
theorem zeros_lt (n : Nat) : Lt 256 (zeros n) := lt_replicate (by omega) n
theorem nonceP_lt (x y : Nat) : Lt 256 (nonceP x y) := setB_lt (setB_lt (setB_lt (zeros_lt 12) _ _ _) _ _ _) _ _ _

set_option maxHeartbeats 1000000 in
theorem nonce_any (x y : Nat) (w : World) (hy : y < 18446744073709551616) :
    Calls Try.prog 27 #[.int .u32 (x : Int), .int .u64 (y : Int)] w fun e w' => e = .returned (.string (txt (nonceP x y))) ∧ Below w.heap.size w w' := by
  obtain ⟨y0, hy0⟩ : ∃ v, v = y % 4294967296 := ⟨_, rfl⟩
  obtain ⟨y1, hy1⟩ : ∃ v, v = y / 4294967296 % 4294967296 := ⟨_, rfl⟩
  have e0 : IntKind.u32.wrap (y : Int) = (y0 : Int) := by rw [wrap32, hy0]
  have e0' : (y : Int) % 4294967296 = (y0 : Int) := by omega
  have e1 : (y : Int) / 4294967296 % 4294967296 = (y1 : Int) := by omega
  have e1' : (y : Int) / 4294967296 = (y1 : Int) := by omega
  have e1'' : IntKind.u32.wrap (y1 : Int) = (y1 : Int) := by rw [IntKind.wrap_u32]; omega
  have HP : Shy (nonceP x y = setB (setB (setB (zeros 12) 0 x 4) 4 y0 4) 8 y1 4) := ⟨by rw [nonceP, hy0, hy1]⟩
  have HB1 : Shy (y1 < 4294967296) := ⟨by omega⟩
  clear hy0 hy1
  have HL : Shy ((nonceP x y).length = 12) := ⟨nonceP_length x y⟩
  go_enter Try.func27, Try.ntmps27
  go_wp2_with fail
  generalize hW : World.alloc w _ = W
  have h1 : W.heap[w.heap.size]? = some (row8 78 (zeros 12)) := by rw [← hW]; exact heap_alloc_new _ _
  have h3 : Below w.heap.size w W := by rw [← hW]; exact (Below.refl _ _).alloc (Nat.le_refl _) _
  have H3 := hide1 h3
  clear hW h3
  go_at_call 34
  refine (put_any (zeros 12) x w.heap.size 0 12 12 78 W h1 (by omega) (by decide)).mono ?_
  rintro e w1 ⟨rfl, hw1⟩
  have h2 : w1.heap[w.heap.size]? = some (row8 78 (setB (zeros 12) 0 x 4)) := by rw [hw1]; exact setRow_heap _ _ _ _ _ _ h1
  have b1 : Below w.heap.size w w1 := by rw [hw1]; exact Below.setRow' H3.out (Nat.le_refl _) _
  have B1 := hide1 b1
  clear hw1 h1 b1
  go_wp2_with fail
  go_at_call 34
  refine (put_any _ y0 w.heap.size 4 8 8 78 w1 h2 (by omega) (by rw [setB_length]; decide)).mono ?_
  rintro e w2 ⟨rfl, hw2⟩
  have h4 : w2.heap[w.heap.size]? = some (row8 78 (setB (setB (zeros 12) 0 x 4) 4 y0 4)) := by rw [hw2]; exact setRow_heap _ _ _ _ _ _ h2
  have b2 : Below w.heap.size w w2 := by rw [hw2]; exact Below.setRow' B1.out (Nat.le_refl _) _
  have B2 := hide1 b2
  clear hw2 h2 b2
  go_wp2_with fail
  go_at_call 34
  refine (put_any _ y1 w.heap.size 8 4 4 78 w2 h4 (by omega) (by rw [setB_length, setB_length]; decide)).mono ?_
  rintro e w3 ⟨rfl, hw3⟩
  have h5 : w3.heap[w.heap.size]? = some (row8 78 (nonceP x y)) := by rw [hw3, HP.out]; exact setRow_heap _ _ _ _ _ _ h4
  have b3 : Below w.heap.size w w3 := by rw [hw3]; exact Below.setRow' B2.out (Nat.le_refl _) _
  have B3 := hide1 b3
  have hcv := conv_row (cap := 12) h5
  rw [HL.out] at hcv
  clear hw3 h4 b3 h5
  obtain ⟨tx, htx⟩ : ∃ tx, tx = txt (nonceP x y) := ⟨_, rfl⟩
  rw [← htx] at hcv
  have HX : Shy (tx = txt (nonceP x y)) := ⟨htx⟩
  clear htx
  go_wp2
  go_ret
  exact ⟨by rw [← HX.out]; rfl, B3.out⟩

/- bytes as a number, from the place top down -/
end Go.Proofs.Ytpigbhmamaghgaa.Pg
