/- Texts with their length ahead: writeMeasured, and the document's Long. -/
import Derived.Test.YtjcfllidandeiaaDoorOe
namespace Go.Proofs.YtjcfllidandeiaaDoor
open Go.RowKit
set_option maxRecDepth 100000
attribute [local go_sem] not_any

def measP (s : ByteArray) : List Nat := bytesP s.size ++ nums s
theorem bytesP_lt (x : Nat) : Lt 256 (bytesP x) := by
  intro y hy
  simp [bytesP] at hy
  omega
theorem measP_lt (s : ByteArray) : Lt 256 (measP s) := (bytesP_lt _).app (nums_lt s)
theorem measP_length (s : ByteArray) : (measP s).length = 4 + s.size := by rw [measP, List.length_append, nums_length]; rfl
theorem txt_size (x : Nat) : (txt (bytesP x)).size = 4 := by rw [nums_size (nums_txt (bytesP_lt x))]; rfl

set_option maxHeartbeats 2000000 in
theorem measured_any (b : Nat) (l : List Nat) (s : ByteArray) (w : World) (hL : Laid w) (hb : 2 ≤ b) (hS : Sums w b (grownP l) (restP l) l.length) (hl : Lt 256 l) (hs : s.size ≤ 600) (hz : l.length ≤ 100000) :
    Calls Tryd.prog 25 #[.pointer (some ⟨b, 0, none⟩), .string s] w fun e w' => e = .returned (.tuple #[]) ∧ Sums w' b (grownP (l ++ measP s)) (restP (l ++ measP s)) (l ++ measP s).length ∧ But b w w' := by
  have HL := hide1 hL
  have HS := hide1 hS
  have Hl := hide1 hl
  have hblt := hide1 (lt_heap hS.row)
  clear hL hS hl
  have hB := hide1 (bytes_any s.size w (by omega))
  unfold arr8 at hB
  have ws : IntKind.u32.wrap (s.size : Int) = (s.size : Int) := by rw [IntKind.wrap_u32]; omega
  go_enter Tryd.func25, Tryd.ntmps25
  go_wp2_with fail
  refine hB.out.mono ?_
  rintro e w1 ⟨rfl, hb1⟩
  have hst : ∀ v : World, (storeCells ⟨v.heap.size, 0, none⟩ (u8s (bytesP s.size))).run Tryd.prog (v.alloc (.cells #[Value.int IntKind.u8 0, Value.int IntKind.u8 0, Value.int IntKind.u8 0, Value.int IntKind.u8 0] 64)) = .ok () (v.alloc (.cells (u8s (bytesP s.size)).toArray 64)) :=
    fun v => run_storeCells_new (P := Tryd.prog) v 64 _ (u8s (bytesP s.size)).toArray (by kernel_rfl) rfl (all_one (u8s_one _))
  have hcv : ∀ v : World, (convert 50 9 (.slice (some ⟨v.heap.size, 0, none⟩) 4 4)).run Tryd.prog (v.alloc (.cells (u8s (bytesP s.size)).toArray 64)) = .ok (.string (txt (bytesP s.size))) (v.alloc (.cells (u8s (bytesP s.size)).toArray 64)) :=
    fun v => conv_row (l := bytesP s.size) (cap := 4) (heap_alloc_new v _)
  have B1 := hide1 hb1
  clear hb1 hB
  go_wp2_with fail
  generalize hY : World.alloc w1 _ = Y
  have y1 : Below w.heap.size w Y := by rw [← hY]; exact B1.out.alloc B1.out.size _
  have y2 : Sums Y b (grownP l) (restP l) l.length := HS.out.to (y1.block _ hblt.out)
  have Y1 := hide1 y1
  have HLY := hide1 (HL.out.below y1 HL.out.two)
  have hWr := hide1 (write_any b l (txt (bytesP s.size)) Y HLY.out hb y2 Hl.out (by rw [txt_size]; omega))
  rw [nums_txt (bytesP_lt _)] at hWr
  clear hY y1 y2 hst hcv
  refine hWr.out.mono ?_
  rintro e w2 ⟨rfl, hS2, hB2⟩
  have k2 : But b w w2 := (But.of Y1.out).trans hB2
  have hW3 := hide1 (write_any b (l ++ bytesP s.size) s w2 (HLY.out.below (hB2.below (B := 2) hb HLY.out.two) (Nat.le_refl _)) hb hS2 (Hl.out.app (bytesP_lt _)) (by rw [List.length_append]; have : (bytesP s.size).length = 4 := rfl; omega))
  rw [List.append_assoc] at hW3
  have K2 := hide1 k2
  clear hS2 hB2 k2 hWr
  go_wp2_with fail
  refine hW3.out.mono ?_
  rintro e w3 ⟨rfl, hS3, hB3⟩
  have S3 := hide1 hS3
  have K3 : Hid (But b w w3) := K2.out.trans hB3
  clear hS3 hB3 hW3
  go_wp2
  refine bodyPost_end (results_none rfl _ _ _) rfl ?_
  exact ⟨rfl, S3.out, K3.out⟩

def LongPost (s : ByteArray) (w : World) (e : Ending) (w' : World) : Prop := ∃ q, e = .returned (.string q) ∧ nums q = measP s ∧ Below w.heap.size w w'

set_option maxHeartbeats 2000000 in
theorem long_any (s : ByteArray) (w : World) (hs : s.size ≤ 600) : Calls Tryd.prog 26 #[.string s] w (LongPost s w) := by
  obtain ⟨n, hn⟩ : ∃ n, n = s.size := ⟨_, rfl⟩
  have en : s.size = n := hn.symm
  have a1 : (n : Int) / 16777216 = 0 := by omega
  have a2 : (n : Int) / 65536 = 0 := by omega
  obtain ⟨m1, hm1⟩ : ∃ m, m = n / 256 := ⟨_, rfl⟩
  obtain ⟨m0, hm0⟩ : ∃ m, m = n % 256 := ⟨_, rfl⟩
  have a3 : (n : Int) / 256 = (m1 : Int) := by omega
  have a4 : (m1 : Int) % 256 = (m1 : Int) := by omega
  have a5 : (n : Int) % 256 = (m0 : Int) := by omega
  have Hn : Shy (n = s.size) := ⟨hn⟩
  have Hm : Shy (bytesP n = [0, 0, m1, m0]) := ⟨by rw [bytesP, hm1, hm0]; simp only [List.cons.injEq, and_true]; omega⟩
  have ln : n ≤ 600 := by omega
  clear hn hm0 hm1 hs
  go_enter Tryd.func26, Tryd.ntmps26
  have hcv : ∀ v : World, (convert 50 9 (.slice (some ⟨v.heap.size, 0, none⟩) 4 4)).run Tryd.prog (v.alloc (.cells #[Value.int IntKind.u8 0, Value.int IntKind.u8 0, Value.int IntKind.u8 (m1 : Int), Value.int IntKind.u8 (m0 : Int)] 5)) = .ok (.string (txt [0, 0, m1, m0])) (v.alloc (.cells #[Value.int IntKind.u8 0, Value.int IntKind.u8 0, Value.int IntKind.u8 (m1 : Int), Value.int IntKind.u8 (m0 : Int)] 5)) :=
    fun v => conv_row (l := [0, 0, m1, m0]) (cap := 4) (heap_alloc_new v _)
  have Hx : Shy (nums (txt [0, 0, m1, m0]) = bytesP s.size) := ⟨by rw [← Hn.out, ← Hm.out]; exact nums_txt (bytesP_lt _)⟩
  have z4 : (txt [0, 0, m1, m0]).size = 4 := by rw [← Hm.out]; exact txt_size n
  have z5 : ¬ (9223372036854775807 < 4 + n) := by omega
  generalize txt [0, 0, m1, m0] = q at hcv Hx z4
  go_wp2
  go_ret
  exact ⟨q ++ s, rfl, by rw [nums_append, Hx.out]; rfl, (Below.refl _ _).alloc (Nat.le_refl _) _⟩
end Go.Proofs.YtjcfllidandeiaaDoor
