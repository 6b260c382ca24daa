/- A frame's bytes: Encode. The chapter's example. Regions that draw, whose calls only make memory. -/
import Derived.Test.YtcadlcpccemkbaaMRwSdXaXb
import Derived.BigQuiet
namespace Go.Proofs.Ytcadlcpccemkbaa.X
open Go.RowKit
set_option maxRecDepth 100000
attribute [local go_sem] not_any mf_any

/- a frame's bytes -/
def encB (k o p q a : Nat) (b : ByteArray) : List Nat := ((((([] ++ fix k 1) ++ fix o 4) ++ fix p 4) ++ fix q 4) ++ fix a 4) ++ nums b
theorem encB_length (k o p q a : Nat) (b : ByteArray) : (encB k o p q a b).length = 17 + b.size := by
  simp only [encB, List.length_append, fix_length, nums_length, List.length_nil]
theorem encB_lt (k o p q a : Nat) (b : ByteArray) : Lt 256 (encB k o p q a b) := by
  unfold encB
  have h0 : Lt 256 [] := fun x hx => by cases hx
  exact (((((h0.append (fix_lt _ _)).append (fix_lt _ _)).append (fix_lt _ _)).append (fix_lt _ _)).append (fix_lt _ _)).append (nums_all b)
def tFRAME : ByteArray := ⟨#[102, 114, 97, 109, 101]⟩
theorem chk_size {k o p q a : Int} {n : Nat} (h : chk k o p q a n = 0) : n ≤ 65536 ∧ 1 ≤ k ∧ k ≤ 3 := by
  unfold chk at h
  split at h
  · cases h
  split at h
  · cases h
  split at h
  · cases h
  split at h
  · cases h
  split at h
  · cases h
  · omega

set_option maxHeartbeats 2000000 in
theorem encode_bad (k o p q a : Int) (b : ByteArray) (w : World) (hc : chk k o p q a b.size ≠ 0) :
    Calls Try.prog 51 #[fra k o p q a b] w fun e w' => ∃ v, e = .returned (.tuple #[.string ⟨#[]⟩, v]) ∧ ErrIs w' (chk k o p q a b.size) tFRAME v ∧ Below w.heap.size w w' := by
  have mx := mixed
  have kC := fun w => hide1 (check_any k o p q a b w)
  have kN := fun w => hide1 (new_some (chk k o p q a b.size) tFRAME w hc)
  have HC := hide1 hc
  have hc' : (chk k o p q a b.size != 0) = true := by simpa using hc
  generalize chk k o p q a b.size = c at *
  unfold fra at *
  unfold tFRAME at kN
  clear hc
  go_enter Try.func51, Try.ntmps51
  go_upto_region 1 with (fail)
  generalize hX : World.alloc w _ = X
  have HX : Hid (Below w.heap.size w X) := by rw [← hX]; exact below1 _
  have h0 := hX ▸ heap_alloc_new w _
  obtain ⟨c0, c1, c2, c3, c4, c5, l0⟩ := box6 h0
  clear hX h0
  go_wp2_with fail
  refine (kC _).out.mono ?_
  rintro e w1 ⟨rfl, hb1⟩
  have HB1 := hide1 (HX.out.trans (hb1.mono HX.out.size))
  clear kC hb1 c0 c1 c2 c3 c4 c5
  go_wp2_with (go_at_call 12; refine (kN _).out.mono ?_; rintro e w2 ⟨rfl, rfl⟩)
  go_ret2
  exact ⟨_, rfl, Or.inr ⟨HC.out, _, rfl, heap_alloc_new _ _⟩, HB1.out.alloc HB1.out.size _⟩

set_option maxHeartbeats 2000000 in
theorem encode_ok (k o p q a : Nat) (b : ByteArray) (w : World) (hc : chk k o p q a b.size = 0) (ho : o < 4294967296) (hp : p < 4294967296) (hq : q < 4294967296) (ha : a < 4294967296) :
    Calls Try.prog 51 #[fra k o p q a b] w fun e w' => e = .returned (.tuple #[.string (txt (encB k o p q a b)), .nilIface]) ∧ Below w.heap.size w w' := by
  have mx := mixed
  have kC := fun w => hide1 (check_any k o p q a b w)
  obtain ⟨hz, hk1, hk3⟩ := chk_size hc
  rw [hc] at kC
  have e8 : IntKind.u8.wrap (k : Int) = (k : Int) := by rw [IntKind.wrap_u8]; omega
  have e8' : (k : Int) % 256 = (k : Int) := by omega
  have HK : Shy (k < 256) := ⟨by omega⟩
  have HO : Shy (o < 4294967296) := ⟨ho⟩
  have HP : Shy (p < 4294967296) := ⟨hp⟩
  have HQ : Shy (q < 4294967296) := ⟨hq⟩
  have HA : Shy (a < 4294967296) := ⟨ha⟩
  have HZ : Shy (b.size ≤ 65536) := ⟨hz⟩
  obtain ⟨T, hT⟩ : ∃ T, txt (encB k o p q a b) = T := ⟨_, rfl⟩
  have HT : Shy (txt (encB k o p q a b) = T) := ⟨hT⟩
  rw [hT]
  clear hc hk1 hk3 ho hp hq ha hz hT
  unfold fra at *
  go_enter Try.func51, Try.ntmps51
  go_upto_region 1 with (fail)
  generalize hX : World.alloc w _ = X
  have HX : Hid (Below w.heap.size w X) := by rw [← hX]; exact below1 _
  have h0 := hX ▸ heap_alloc_new w _
  obtain ⟨g, hg⟩ : ∃ g, w.heap.size = g := ⟨_, rfl⟩
  have HG : Shy (w.heap.size = g) := ⟨hg⟩
  rw [hg] at h0 ⊢
  clear hg hX
  obtain ⟨c0, c1, c2, c3, c4, c5, l0⟩ := box6 h0
  have H0 := hide1 h0
  clear h0
  go_wp2_with fail
  refine (kC _).out.mono ?_
  rintro e w1 ⟨rfl, hb1⟩
  have HB1 := hide1 (HX.out.trans (hb1.mono HX.out.size))
  have R1 := hide1 ((hb1.block g l0).trans H0.out)
  clear kC hb1 c0 c1 c2 c3 c4 c5 l0
  go_upto_region 5 with (fail)
  generalize hY : World.alloc w1 _ = Y
  have l1 := lt_heap R1.out
  have R2 : Hid (Y.heap[g]? = some (.cells #[.int .i64 (k : Int), .int .u32 (o : Int), .int .u32 (p : Int), .int .u32 (q : Int), .int .u32 (a : Int), .string b] 73 (0, 0))) := by rw [← hY]; exact (Below.heap_alloc _ _ _ l1).trans R1.out
  have W2 := hide1 (hY ▸ Wr.new w1)
  have HB2 : Hid (Below w.heap.size w Y) := by rw [← hY]; exact HB1.out.alloc HB1.out.size _
  obtain ⟨gw, hgw⟩ : ∃ g, w1.heap.size = g := ⟨_, rfl⟩
  rw [hgw] at W2 ⊢
  have HNE : Shy (g ≠ gw) := ⟨by omega⟩
  have HGW : Shy (w.heap.size ≤ gw) := ⟨by rw [← hgw]; exact HB1.out.size⟩
  clear hY hgw l1 R1 HB1 H0 HX X
  have k2 := hide1 (wU8_any gw Y ([]) k W2.out (by simp) HK.out)
  obtain ⟨c0, c1, c2, c3, c4, c5, l0⟩ := box6 R2.out
  go_wp2_with fail
  refine k2.out.mono ?_
  rintro e w3 ⟨rfl, hw3, hbt3⟩
  have R3 := hide1 ((hbt3.block g l0 HNE.out).trans R2.out)
  have W3 := hide1 hw3
  have HB3 := hide1 (hbt3.below HB2.out HGW.out HB2.out.size)
  clear k2 c0 c1 c2 c3 c4 c5 l0 R2 W2 HB2 hw3 hbt3
  have k3 := hide1 (wU32_any gw w3 ([] ++ fix k 1) o W3.out (by simp only [List.length_append, fix_length, List.length_nil]; omega) HO.out)
  obtain ⟨c0, c1, c2, c3, c4, c5, l0⟩ := box6 R3.out
  go_wp2_with fail
  refine k3.out.mono ?_
  rintro e w4 ⟨rfl, hw4, hbt4⟩
  have R4 := hide1 ((hbt4.block g l0 HNE.out).trans R3.out)
  have W4 := hide1 hw4
  have HB4 := hide1 (hbt4.below HB3.out HGW.out HB3.out.size)
  clear k3 c0 c1 c2 c3 c4 c5 l0 R3 W3 HB3 hw4 hbt4
  have k4 := hide1 (wU32_any gw w4 (([] ++ fix k 1) ++ fix o 4) p W4.out (by simp only [List.length_append, fix_length, List.length_nil]; omega) HP.out)
  obtain ⟨c0, c1, c2, c3, c4, c5, l0⟩ := box6 R4.out
  go_wp2_with fail
  refine k4.out.mono ?_
  rintro e w5 ⟨rfl, hw5, hbt5⟩
  have R5 := hide1 ((hbt5.block g l0 HNE.out).trans R4.out)
  have W5 := hide1 hw5
  have HB5 := hide1 (hbt5.below HB4.out HGW.out HB4.out.size)
  clear k4 c0 c1 c2 c3 c4 c5 l0 R4 W4 HB4 hw5 hbt5
  have k5 := hide1 (wU32_any gw w5 ((([] ++ fix k 1) ++ fix o 4) ++ fix p 4) q W5.out (by simp only [List.length_append, fix_length, List.length_nil]; omega) HQ.out)
  obtain ⟨c0, c1, c2, c3, c4, c5, l0⟩ := box6 R5.out
  go_wp2_with fail
  refine k5.out.mono ?_
  rintro e w6 ⟨rfl, hw6, hbt6⟩
  have R6 := hide1 ((hbt6.block g l0 HNE.out).trans R5.out)
  have W6 := hide1 hw6
  have HB6 := hide1 (hbt6.below HB5.out HGW.out HB5.out.size)
  clear k5 c0 c1 c2 c3 c4 c5 l0 R5 W5 HB5 hw6 hbt6
  have k6 := hide1 (wU32_any gw w6 (((([] ++ fix k 1) ++ fix o 4) ++ fix p 4) ++ fix q 4) a W6.out (by simp only [List.length_append, fix_length, List.length_nil]; omega) HA.out)
  obtain ⟨c0, c1, c2, c3, c4, c5, l0⟩ := box6 R6.out
  go_wp2_with fail
  refine k6.out.mono ?_
  rintro e w7 ⟨rfl, hw7, hbt7⟩
  have R7 := hide1 ((hbt7.block g l0 HNE.out).trans R6.out)
  have W7 := hide1 hw7
  have HB7 := hide1 (hbt7.below HB6.out HGW.out HB6.out.size)
  clear k6 c0 c1 c2 c3 c4 c5 l0 R6 W6 HB6 hw7 hbt7
  have k7 := hide1 (wRaw_any gw w7 ((((([] ++ fix k 1) ++ fix o 4) ++ fix p 4) ++ fix q 4) ++ fix a 4) b W7.out (by simp only [List.length_append, fix_length, List.length_nil]; omega) (by have := HZ.out; omega))
  obtain ⟨c0, c1, c2, c3, c4, c5, l0⟩ := box6 R7.out
  go_wp2_with fail
  refine k7.out.mono ?_
  rintro e w8 ⟨rfl, hw8, hbt8⟩
  have W8 : Hid (Wr w8 gw (encB k o p q a b)) := hw8
  have HB8 := hide1 (hbt8.below HB7.out HGW.out HB7.out.size)
  have k8 := hide1 (wBytes_any gw w8 _ W8.out (by rw [encB_length]; have := HZ.out; omega))
  clear k7 c0 c1 c2 c3 c4 c5 l0 R7 W7 HB7 hw8 hbt8
  rw [HT.out] at k8
  go_wp2_with (go_at_call 61; refine k8.out.mono ?_; rintro e w9 ⟨rfl, hb9⟩)
  go_ret2
  exact ⟨rfl, HB8.out.trans (hb9.mono HB8.out.size)⟩
end Go.Proofs.Ytcadlcpccemkbaa.X

namespace Go.Proofs.Ytcadlcpccemkbaa.X
open Go.RowKit
set_option maxRecDepth 100000
attribute [local go_sem] not_any mf_any

theorem ex_txt : txt (encB 3 1 2 0 5 ⟨#[]⟩) = ⟨#[3, 0, 0, 0, 1, 0, 0, 0, 2, 0, 0, 0, 0, 0, 0, 0, 5]⟩ := by decide +kernel
theorem ex_chk : chk ((3 : Nat) : Int) ((1 : Nat) : Int) ((2 : Nat) : Int) ((0 : Nat) : Int) ((5 : Nat) : Int) (ByteArray.size ⟨#[]⟩) = 0 := by decide +kernel

/- a world in which all that was there in W is as it was -/
structure Bw (W : World) where
  w : World
  h : Below W.heap.size W w
theorem wp_region_quiet_bw {P : Program} {id : Nat} {Q : Exit → Act → World → Prop} {a : Act} {w : World} {l : List Oper} (hm : P.follows .mixedOrders = true) (hB : Region.lexB .any l.toArray = true)
    (h : wpQuiet P l.toArray (fun w' => ∃ p : Bw w, w' = p.w) (fun a' => ∀ w', (∃ p : Bw w, w' = p.w) → Q .normal a' w') l a) : (Code.region id l.toArray true).wp P Q a w :=
  wp_region_quiet (C := fun w' => ∃ p : Bw w, w' = p.w) hm hB ⟨⟨w.drew, (Below.refl _ _).drew⟩, rfl⟩ (by simpa using h)
theorem bw_of {P : Program} {f : FuncId} {args : Array Value} {W : World} {p : Bw W} {v : Value}
    (h : Calls P f args p.w fun e w' => e = .returned v ∧ Below p.w.heap.size p.w w') : Calls P f args p.w fun e w'' => e = .returned v ∧ ∃ p : Bw W, w'' = p.w :=
  h.mono fun _ w'' ⟨he, hb⟩ => ⟨he, ⟨w'', p.h.trans (hb.mono p.h.size)⟩, rfl⟩
theorem bw_cell {W : World} {a : Addr} {v : Value} (h : W.cell? a = some v) (p : Bw W) : p.w.cell? a = some v := (p.h.cell (block_lt_of_cell h)).trans h

end Go.Proofs.Ytcadlcpccemkbaa.X
