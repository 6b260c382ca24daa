/- The document's Encode. -/
import Derived.Test.YtcgpokbijaioiaaDoorXi
import Derived.Test.YtcgpokbijaioiaaDoorWh
namespace Go.Proofs.YtcgpokbijaioiaaDoor
open Go.RowKit
set_option maxRecDepth 100000
attribute [local go_sem] not_any mf_any

theorem fixed4 (x : Nat) (w : World) (hx : x < 18446744073709551616) : Calls Tryd.prog 20 #[.int .u64 (x : Int), .int .i64 4] w fun e w' => e = .returned (.string (txt (fix x 4))) ∧ Below w.heap.size w w' :=
  fixed_step 3 x w (by omega) hx fun x w hx => fixed_step 2 x w (by omega) hx fun x w hx => fixed_step 1 x w (by omega) hx fun x w hx => fixed_step 0 x w (by omega) hx fun x w _ => fixed_zero x w

set_option maxHeartbeats 1000000 in
theorem rencode_bad (k o p q a : Int) (b : ByteArray) (w : World) (hc : chk k o p q a b.size ≠ 0) :
    Calls Tryd.prog 8 #[fra k o p q a b] w fun e w' => e = .returned (.tuple #[.string ⟨#[]⟩, .int .i64 (chk k o p q a b.size)]) ∧ Below w.heap.size w w' := by
  have mx := mixed
  have kC := fun w => hide1 (rcheck_any k o p q a b w)
  have hc' : (chk k o p q a b.size != 0) = true := by simpa using hc
  generalize chk k o p q a b.size = c at *
  unfold fra at *
  clear hc
  go_enter Tryd.func8, Tryd.ntmps8
  go_upto_region 1 with (fail)
  generalize hX : World.alloc w _ = X
  have HX : Hid (Below w.heap.size w X) := by rw [← hX]; exact below1 _
  have h0 := hX ▸ heap_alloc_new w _
  obtain ⟨c0, c1, c2, c3, c4, c5, l0⟩ := box6 h0
  have H0 := hide1 h0
  clear hX h0
  go_wp2_with fail
  refine (kC _).out.mono ?_
  rintro e w1 ⟨rfl, hb1⟩
  have HB1 := hide1 (HX.out.trans (hb1.mono HX.out.size))
  obtain ⟨d0, d1, d2, d3, d4, d5, l1⟩ := box6 ((hb1.block _ l0).trans H0.out)
  clear hb1 c0 c1 c2 c3 c4 c5
  go_wp2_with fail
  refine (kC _).out.mono ?_
  rintro e w2 ⟨rfl, hb2⟩
  go_wp2
  go_ret2
  exact ⟨rfl, HB1.out.trans (hb2.mono HB1.out.size)⟩

/- what is written ahead of the number j -/
def preB (k : Nat) (l : List Nat) (j : Nat) : List Nat := fix k 1 ++ ((l.take j).map (fun x => fix x 4)).flatten
theorem flat_lt : ∀ l : List Nat, Lt 256 ((l.map (fun x => fix x 4)).flatten) ∧ ((l.map (fun x => fix x 4)).flatten).length = 4 * l.length
  | [] => ⟨fun x hx => by simp at hx, rfl⟩
  | x :: l => by
    have := flat_lt l
    rw [List.map_cons, List.flatten_cons]
    exact ⟨(fix_lt 4 x).append this.1, by rw [List.length_append, fix_length, this.2, List.length_cons]; omega⟩
theorem preB_lt (k : Nat) (l : List Nat) (j : Nat) : Lt 256 (preB k l j) := (fix_lt 1 k).append (flat_lt _).1
theorem preB_length (k : Nat) (l : List Nat) (j : Nat) (h : j ≤ l.length) : (preB k l j).length = 1 + 4 * j := by
  rw [preB, List.length_append, fix_length, (flat_lt _).2, List.length_take, Nat.min_eq_left h]
theorem preB_step (k : Nat) (l : List Nat) (j x : Nat) (h : l[j]? = some x) : preB k l (j + 1) = preB k l j ++ fix x 4 := by
  rw [preB, preB, List.take_add_one, h, List.append_assoc]
  simp
theorem preB_zero (k : Nat) (l : List Nat) (h : k < 256) : preB k l 0 = [k] := by
  simp [preB, fix, Nat.mod_eq_of_lt h]
theorem preB_all (k o p q a : Nat) (b : ByteArray) : preB k [o, p, q, a] 4 ++ nums b = encB k o p q a b := by
  simp [preB, encB]
def u32s (l : List Nat) : List Value := l.map (fun x : Nat => Value.int IntKind.u32 (x : Int))
theorem u32_cell {w : World} {g j x : Nat} {l : List Nat} {t : TypeId} (h : w.heap[g]? = some (.cells (u32s l).toArray t (0, 0))) (hj : l[j]? = some x) : w.cell? ⟨g, j, none⟩ = some (.int .u32 (x : Int)) := by
  rw [cell_of_row w g j _ _ _ h]
  simp [u32s, hj]
theorem get_lt {α : Type} {l : List α} {k : Nat} (h : k < l.length) : ∃ x, l[k]? = some x := ⟨l[k], List.getElem?_eq_getElem h⟩

set_option maxHeartbeats 2000000 in
theorem rencode_ok (k o p q a : Nat) (b : ByteArray) (w : World) (hc : chk k o p q a b.size = 0) (ho : o < 4294967296) (hp : p < 4294967296) (hq : q < 4294967296) (ha : a < 4294967296) :
    Calls Tryd.prog 8 #[fra k o p q a b] w fun e w' => e = .returned (.tuple #[.string (txt (encB k o p q a b)), .int .i64 0]) ∧ Below w.heap.size w w' := by
  have mx := mixed
  have kC := fun w => hide1 (rcheck_any k o p q a b w)
  obtain ⟨hz, hk1, hk3⟩ := chk_size hc
  rw [hc] at kC
  have e8 : IntKind.u8.wrap (k : Int) = (k : Int) := by rw [IntKind.wrap_u8]; omega
  have e8' : (k : Int) % 256 = (k : Int) := by omega
  have HK : Shy (k < 256) := ⟨by omega⟩
  obtain ⟨L, hL⟩ : ∃ L, [o, p, q, a] = L := ⟨_, rfl⟩
  have HL : Shy (L.length = 4 ∧ (∀ x ∈ L, x < 4294967296) ∧ u32s L = [.int .u32 (o : Int), .int .u32 (p : Int), .int .u32 (q : Int), .int .u32 (a : Int)]) := ⟨by
    rw [← hL]
    refine ⟨rfl, ?_, rfl⟩
    intro x hx
    simp only [List.mem_cons, List.not_mem_nil, or_false] at hx
    omega⟩
  have HT : Shy (txt (preB k L 4) ++ b = txt (encB k o p q a b)) := ⟨by
    rw [← preB_all, hL, ← txt_append (preB_lt _ _ _) (nums_all b), txt_nums]⟩
  have HZ : Shy (b.size ≤ 65536) := ⟨hz⟩
  obtain ⟨T, hT⟩ : ∃ T, txt (encB k o p q a b) = T := ⟨_, rfl⟩
  rw [hT] at HT ⊢
  have cv := conv_new k
  rw [← preB_zero k L (by omega)] at cv
  clear hc hk1 hk3 ho hp hq ha hz hT hL
  unfold fra at *
  go_enter Tryd.func8, Tryd.ntmps8
  go_upto_region 1 with (fail)
  generalize hX : World.alloc w _ = X
  have HX : Hid (Below w.heap.size w X) := by rw [← hX]; exact below1 _
  have h0 := hX ▸ heap_alloc_new w _
  obtain ⟨g, hg⟩ : ∃ g, w.heap.size = g := ⟨_, rfl⟩
  rw [hg] at h0 ⊢
  clear hg hX
  obtain ⟨c0, c1, c2, c3, c4, c5, l0⟩ := box6 h0
  have H0 := hide1 h0
  clear h0
  go_wp2_with fail
  refine (kC _).out.mono ?_
  rintro e w1 ⟨rfl, hb1⟩
  have HB1 := hide1 (HX.out.trans (hb1.mono HX.out.size))
  have R1 := hide1 ((hb1.block _ l0).trans H0.out)
  obtain ⟨d0, d1, d2, d3, d4, d5, l1⟩ := box6 R1.out
  clear kC hb1 c0 c1 c2 c3 c4 c5 l0 H0 HX
  go_upto_region 4 with (fail)
  generalize hY : World.alloc w1 _ = Y
  have R2 : Hid (Y.heap[g]? = some (.cells #[.int .i64 (k : Int), .int .u32 (o : Int), .int .u32 (p : Int), .int .u32 (q : Int), .int .u32 (a : Int), .string b] 24 (0, 0))) := by rw [← hY]; exact (Below.heap_alloc _ _ _ l1).trans R1.out
  have HB2 : Hid (Below w.heap.size w Y) := by rw [← hY]; exact HB1.out.alloc HB1.out.size _
  clear hY R1 HB1 d0 d1 d2 d3 d4 d5 l1 cv
  obtain ⟨d0, d1, d2, d3, d4, d5, l1⟩ := box6 R2.out
  obtain ⟨T0, hT0⟩ : ∃ T, txt (preB k L 0) = T := ⟨_, rfl⟩
  have HT0 : Shy (txt (preB k L 0) = T0) := ⟨hT0⟩
  rw [hT0]
  clear hT0
  go_wp2_with fail
  generalize hV : World.alloc Y _ = V
  have F3 : Hid (V.heap[Y.heap.size]? = some (.cells (u32s L).toArray 22 (0, 0))) := by rw [← hV, HL.out.2.2]; exact heap_alloc_new Y _
  have R3 : Hid (V.heap[g]? = some (.cells #[.int .i64 (k : Int), .int .u32 (o : Int), .int .u32 (p : Int), .int .u32 (q : Int), .int .u32 (a : Int), .string b] 24 (0, 0))) := by rw [← hV]; exact (Below.heap_alloc _ _ _ l1).trans R2.out
  have HB3 : Hid (Below w.heap.size w V) := by rw [← hV]; exact HB2.out.alloc HB2.out.size _
  obtain ⟨b5, hb5⟩ : ∃ b, Y.heap.size = b := ⟨_, rfl⟩
  rw [hb5] at F3 ⊢
  have L5 := lt_heap F3.out
  have LG := lt_heap R3.out
  clear hV hb5 R2 HB2 d0 d1 d2 d3 d4 d5 l1
  go_loopw [4, 6] (fun sv iv wr => ∃ j : Nat, j ≤ 4 ∧ iv = .int .i64 j ∧ sv = .string (txt (preB k L j)) ∧ Below V.heap.size V wr) (fun _ iv _ => 4 - (intOf iv).toNat)
  case atStart => exact ⟨0, Nat.zero_le _, rfl, by rw [HT0.out], Below.refl _ _⟩
  case round =>
    obtain ⟨j, hj, rfl, rfl, hB⟩ := hrel
    have l5 : b5 < wr.heap.size := Nat.lt_of_lt_of_le L5 hB.size
    have HB := hide1 hB
    have hs1 : (txt (preB k L j)).size = 1 + 4 * j := by rw [txt_size (preB_lt _ _ _), preB_length _ _ _ (by have := HL.out.1; omega)]
    by_cases hlt : j < 4
    · obtain ⟨x, hx⟩ := get_lt (l := L) (k := j) (by have := HL.out.1; omega)
      have c1 := u32_cell ((hB.block _ L5).trans F3.out) hx
      have hxl : x < 4294967296 := HL.out.2.1 x (List.mem_of_getElem? hx)
      have kF := fun w => hide1 (fixed4 x w (by omega))
      have HS : Shy (txt (preB k L j) ++ txt (fix x 4) = txt (preB k L (j + 1))) := ⟨by rw [preB_step _ _ _ _ hx, txt_append (preB_lt _ _ _) (fix_lt _ _)]⟩
      have hs2 : (txt (fix x 4)).size = 4 := by rw [txt_size (fix_lt _ _), fix_length]
      have hss : ¬ (9223372036854775807 < (txt (preB k L j)).size + (txt (fix x 4)).size) := by omega
      have e1 : IntKind.u64.wrap (x : Int) = (x : Int) := by rw [IntKind.wrap_u64]; omega
      generalize txt (preB k L j) = A1 at *
      generalize txt (fix x 4) = A2 at *
      clear hs1 hs2 hx hB
      go_wp2_with (go_at_call 20; refine (kF _).out.mono ?_; rintro e w5 ⟨rfl, hb5⟩)
      go_roundw
      case rel => exact ⟨j + 1, by omega, by go_num, by rw [HS.out], HB.out.trans (hb5.mono HB.out.size)⟩
      case measure => simp [intOf]; omega
    · obtain rfl : j = 4 := by omega
      obtain ⟨d0, d1, d2, d3, d4, d5, l1⟩ := box6 ((hB.block _ LG).trans R3.out)
      have hss : ¬ (9223372036854775807 < (txt (preB k L 4)).size + b.size) := by have := HZ.out; omega
      generalize txt (preB k L 4) = A1 at *
      clear hs1 hB hlt hj
      go_wp2
      go_ret2
      exact ⟨by rw [← HT.out]; rfl, HB3.out.trans (HB.out.mono HB3.out.size)⟩
end Go.Proofs.YtcgpokbijaioiaaDoor
