/- Lists of texts; the walk of ShaParts. Texts with their length ahead: writeMeasured, and the document's Long. The chapter's example. sha.Sum, the example 'awake', Low. -/
import Derived.Test.YtlkkninnfiaedaaDoorJ28
import Derived.Test.YtlkkninnfiaedaaDoorJ25
namespace Go.Proofs.YtlkkninnfiaedaaDoor.Sh
open Go.RowKit
set_option maxRecDepth 100000
attribute [local go_sem] not_any

/- a list of texts that came in -/
structure Txts (w : World) (n : Nat) (a : Option Addr) (L : List ByteArray) : Prop where
  cell : ∀ j, j < n → ∃ g o, a = some ⟨g, o, none⟩ ∧ w.cell? ⟨g, o + j, none⟩ = some (.string (L.getD j ByteArray.empty))

theorem Txts.below {w w' : World} {n : Nat} {a : Option Addr} {L : List ByteArray} (h : Txts w n a L) (hb : Below w.heap.size w w') : Txts w' n a L := ⟨fun j hj => by
  obtain ⟨g, o, e, hc⟩ := h.cell j hj
  exact ⟨g, o, e, (hb.cell (p := ⟨g, o + j, none⟩) (World.block_lt_of_cell? w _ hc)).trans hc⟩⟩

end Go.Proofs.YtlkkninnfiaedaaDoor.Sh

namespace Go.Proofs.YtlkkninnfiaedaaDoor.Sh
open Go.RowKit
set_option maxRecDepth 100000
attribute [local go_sem] not_any

def measP (s : ByteArray) : List Nat := bytesP s.size ++ nums s
theorem bytesP_lt (x : Nat) : Lt 256 (bytesP x) := by
  intro y hy
  simp [bytesP] at hy
  omega
theorem measP_lt (s : ByteArray) : Lt 256 (measP s) := (bytesP_lt _).app (nums_lt s)
theorem measP_length (s : ByteArray) : (measP s).length = 4 + s.size := by rw [measP, List.length_append, nums_length]; rfl
theorem txt_size (x : Nat) : (txt (bytesP x)).size = 4 := by rw [nums_size (nums_txt (bytesP_lt x))]; rfl

set_option maxHeartbeats 2000000 in
theorem measured_any (b : Nat) (l : List Nat) (s : ByteArray) (w : World) (hL : Laid w) (hb : 2 ≤ b) (hS : Sums w b (grownP l) (restP l) l.length) (hl : Lt 256 l) (hs : s.size ≤ 600) (hz : l.length ≤ 100000) :
    Calls Tryd.prog 50 #[.pointer (some ⟨b, 0, none⟩), .string s] w fun e w' => e = .returned (.tuple #[]) ∧ Sums w' b (grownP (l ++ measP s)) (restP (l ++ measP s)) (l ++ measP s).length ∧ But b w w' := by
  have HL := hide1 hL
  have HS := hide1 hS
  have Hl := hide1 hl
  have hblt := hide1 (lt_heap hS.row)
  clear hL hS hl
  have hB := hide1 (bytes_any s.size w (by omega))
  unfold arr8 at hB
  have ws : IntKind.u32.wrap (s.size : Int) = (s.size : Int) := by rw [IntKind.wrap_u32]; omega
  go_enter Tryd.func50, Tryd.ntmps50
  go_wp2_with fail
  refine hB.out.mono ?_
  rintro e w1 ⟨rfl, hb1⟩
  have hst : ∀ v : World, (storeCells ⟨v.heap.size, 0, none⟩ (u8s (bytesP s.size))).run Tryd.prog (v.alloc (.cells #[Value.int IntKind.u8 0, Value.int IntKind.u8 0, Value.int IntKind.u8 0, Value.int IntKind.u8 0] 133)) = .ok () (v.alloc (.cells (u8s (bytesP s.size)).toArray 133)) :=
    fun v => run_storeCells_new (P := Tryd.prog) v 133 _ (u8s (bytesP s.size)).toArray (by kernel_rfl) rfl (all_one (u8s_one _))
  have hcv : ∀ v : World, (convert 80 9 (.slice (some ⟨v.heap.size, 0, none⟩) 4 4)).run Tryd.prog (v.alloc (.cells (u8s (bytesP s.size)).toArray 133)) = .ok (.string (txt (bytesP s.size))) (v.alloc (.cells (u8s (bytesP s.size)).toArray 133)) :=
    fun v => conv_row (l := bytesP s.size) (cap := 4) (heap_alloc_new v _)
  have B1 := hide1 hb1
  clear hb1 hB
  go_wp2_with fail
  generalize hY : World.alloc w1 _ = Y
  have y1 : Below w.heap.size w Y := by rw [← hY]; exact B1.out.alloc B1.out.size _
  have y2 : Sums Y b (grownP l) (restP l) l.length := HS.out.to (y1.block _ hblt.out)
  have Y1 := hide1 y1
  have HLY := hide1 (HL.out.below y1 HL.out.two)
  have hWr := hide1 (write_any b l (txt (bytesP s.size)) Y HLY.out hb y2 Hl.out (by rw [txt_size]; omega))
  rw [nums_txt (bytesP_lt _)] at hWr
  clear hY y1 y2 hst hcv
  refine hWr.out.mono ?_
  rintro e w2 ⟨rfl, hS2, hB2⟩
  have k2 : But b w w2 := (But.of Y1.out).trans hB2
  have hW3 := hide1 (write_any b (l ++ bytesP s.size) s w2 (HLY.out.below (hB2.below (B := 2) hb HLY.out.two) (Nat.le_refl _)) hb hS2 (Hl.out.app (bytesP_lt _)) (by rw [List.length_append]; have : (bytesP s.size).length = 4 := rfl; omega))
  rw [List.append_assoc] at hW3
  have K2 := hide1 k2
  clear hS2 hB2 k2 hWr
  go_wp2_with fail
  refine hW3.out.mono ?_
  rintro e w3 ⟨rfl, hS3, hB3⟩
  have S3 := hide1 hS3
  have K3 : Hid (But b w w3) := K2.out.trans hB3
  clear hS3 hB3 hW3
  go_wp2
  refine bodyPost_end (results_none rfl _ _ _) rfl ?_
  exact ⟨rfl, S3.out, K3.out⟩

def LongPost (s : ByteArray) (w : World) (e : Ending) (w' : World) : Prop := ∃ q, e = .returned (.string q) ∧ nums q = measP s ∧ Below w.heap.size w w'

set_option maxHeartbeats 2000000 in
theorem long_any (s : ByteArray) (w : World) (hs : s.size ≤ 600) : Calls Tryd.prog 52 #[.string s] w (LongPost s w) := by
  obtain ⟨n, hn⟩ : ∃ n, n = s.size := ⟨_, rfl⟩
  have en : s.size = n := hn.symm
  have a1 : (n : Int) / 16777216 = 0 := by omega
  have a2 : (n : Int) / 65536 = 0 := by omega
  obtain ⟨m1, hm1⟩ : ∃ m, m = n / 256 := ⟨_, rfl⟩
  obtain ⟨m0, hm0⟩ : ∃ m, m = n % 256 := ⟨_, rfl⟩
  have a3 : (n : Int) / 256 = (m1 : Int) := by omega
  have a4 : (m1 : Int) % 256 = (m1 : Int) := by omega
  have a5 : (n : Int) % 256 = (m0 : Int) := by omega
  have Hn : Shy (n = s.size) := ⟨hn⟩
  have Hm : Shy (bytesP n = [0, 0, m1, m0]) := ⟨by rw [bytesP, hm1, hm0]; simp only [List.cons.injEq, and_true]; omega⟩
  have ln : n ≤ 600 := by omega
  clear hn hm0 hm1 hs
  go_enter Tryd.func52, Tryd.ntmps52
  have hcv : ∀ v : World, (convert 80 9 (.slice (some ⟨v.heap.size, 0, none⟩) 4 4)).run Tryd.prog (v.alloc (.cells #[Value.int IntKind.u8 0, Value.int IntKind.u8 0, Value.int IntKind.u8 (m1 : Int), Value.int IntKind.u8 (m0 : Int)] 5)) = .ok (.string (txt [0, 0, m1, m0])) (v.alloc (.cells #[Value.int IntKind.u8 0, Value.int IntKind.u8 0, Value.int IntKind.u8 (m1 : Int), Value.int IntKind.u8 (m0 : Int)] 5)) :=
    fun v => conv_row (l := [0, 0, m1, m0]) (cap := 4) (heap_alloc_new v _)
  have Hx : Shy (nums (txt [0, 0, m1, m0]) = bytesP s.size) := ⟨by rw [← Hn.out, ← Hm.out]; exact nums_txt (bytesP_lt _)⟩
  have z4 : (txt [0, 0, m1, m0]).size = 4 := by rw [← Hm.out]; exact txt_size n
  have z5 : ¬ (9223372036854775807 < 4 + n) := by omega
  generalize txt [0, 0, m1, m0] = q at hcv Hx z4
  go_wp2
  go_ret
  exact ⟨q ++ s, rfl, by rw [nums_append, Hx.out]; rfl, (Below.refl _ _).alloc (Nat.le_refl _) _⟩
end Go.Proofs.YtlkkninnfiaedaaDoor.Sh

namespace Go.Proofs.YtlkkninnfiaedaaDoor.Sh
open Go.RowKit
set_option maxRecDepth 100000

theorem abc_sum : sumP [97, 98, 99] = [186, 120, 22, 191, 143, 1, 207, 234, 65, 65, 64, 222, 93, 174, 34, 35, 176, 3, 97, 163, 150, 23, 122, 156, 180, 16, 255, 97, 242, 0, 21, 173] := by decide +kernel

end Go.Proofs.YtlkkninnfiaedaaDoor.Sh

namespace Go.Proofs.YtlkkninnfiaedaaDoor.Sh
open Go.RowKit
set_option maxRecDepth 100000
attribute [local go_sem] not_any

theorem zero35 (w : World) : (zeroValue 105).run Tryd.prog w = .ok (.agg (scells (zeros 8) (zeros 64) 0).toArray) w :=
  (zero_of_info (P := Tryd.prog) (n := 73) (by kernel_rfl)).1 w

theorem sumP_length (l : List Nat) : (sumP l).length = 32 := by
  unfold sumP
  split
  · exact dig_length (addW_length _ _)
  · exact dig_length (addW_length _ _)

theorem sum_nil (w : World) : Calls Tryd.prog 51 #[.pointer none] w fun e w' => e = .returned (arr8 (zeros 32)) ∧ Below w.heap.size w w' := by
  go_enter Tryd.func51, Tryd.ntmps51
  go_wp2_with (first | (refine wpList_store_own rfl 76 (.tmp 2) (.tmp 10) rfl w.heap.size rfl (u8s (zeros 32)).toArray rfl 76 _ (heap_alloc_new _ _) (by kernel_rfl) rfl (all_one (u8s_one _)) ?_) | fail)
  refine ret_row Tryd.results51 w.heap.size 76 (u8s (zeros 32)).toArray rfl (setRow_heap _ _ _ _ _ _ (heap_alloc_new _ _)) Tryd.underlying76 (by kernel_rfl) rfl ⟨rfl, ?_⟩
  exact Below.setRow' ((Below.refl _ _).alloc (Nat.le_refl _) _) (Nat.le_refl _) _

theorem sums_new (w : World) : Sums (w.alloc (.cells (scells (zeros 8) (zeros 64) 0).toArray 105 (0, 0))) w.heap.size (grownP []) (restP []) ([] : List Nat).length :=
  ⟨heap_alloc_new _ _, rfl, rfl⟩

def abcT : ByteArray := { data := #[97, 98, 99] }
theorem abc_nums : nums abcT = [97, 98, 99] := by decide +kernel

/- the first eight bytes as a number, the lowest first -/
def lowTo (l : List Nat) : Nat → Nat
  | 0 => 0
  | k + 1 => lowTo l k + at0 l k * 2 ^ (8 * k)
def hiTo (l : List Nat) : Nat → Nat
  | 0 => 0
  | j + 1 => hiTo l j * 256 + at0 l (7 - j)
theorem hi_low (l : List Nat) : hiTo l 8 = lowTo l 8 := by
  simp only [hiTo, lowTo, Nat.reduceSub, Nat.reduceMul, Nat.reducePow]
  omega
theorem lowTo_lt {l : List Nat} (h : Lt 256 l) : ∀ k, lowTo l k < 2 ^ (8 * k)
  | 0 => by simp [lowTo]
  | k + 1 => by
    have := lowTo_lt h k
    have h2 := h.at (by omega) k
    rw [lowTo, show 8 * (k + 1) = 8 * k + 8 by omega, Nat.pow_add]
    have : at0 l k * 2 ^ (8 * k) ≤ 255 * 2 ^ (8 * k) := Nat.mul_le_mul_right _ (by omega)
    omega
theorem hiTo_lt {l : List Nat} (h : Lt 256 l) : ∀ k, hiTo l k < 2 ^ (8 * k)
  | 0 => by simp [hiTo]
  | k + 1 => by
    have := hiTo_lt h k
    have h2 := h.at (by omega) (7 - k)
    rw [hiTo, show 8 * (k + 1) = 8 * k + 8 by omega, Nat.pow_add]
    omega

theorem or_int {x y p : Nat} (hx : x < 2 ^ p) (hy : y < 256) (hp : p ≤ 56) : bits .or .u64 (x : Int) (IntKind.u64.wrap ((y : Int) * 2 ^ p)) = ((x + y * 2 ^ p : Nat) : Int) := by
  have h56 : 2 ^ p ≤ 2 ^ 56 := Nat.pow_le_pow_right (by omega) hp
  have h1 : y * 2 ^ p ≤ 255 * 2 ^ p := Nat.mul_le_mul_right _ (by omega)
  have h2 : y * 2 ^ p < 18446744073709551616 := by omega
  have e : (y : Int) * 2 ^ p = ((y * 2 ^ p : Nat) : Int) := by rw [Int.natCast_mul, Int.natCast_pow]; rfl
  have e2 : IntKind.u64.wrap ((y * 2 ^ p : Nat) : Int) = ((y * 2 ^ p : Nat) : Int) := by rw [IntKind.wrap_u64]; omega
  have e3 : x ||| y * 2 ^ p = x + y * 2 ^ p := by
    rw [Nat.or_comm, Nat.mul_comm, ← Nat.two_pow_add_eq_or_of_lt hx, Nat.add_comm]
  rw [e, e2, u64_or_nat _ _ (by omega) h2, e3]

end Go.Proofs.YtlkkninnfiaedaaDoor.Sh
