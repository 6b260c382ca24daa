/- The document's Encode. The document's frames. -/
import Derived.Test.YtcadlcpccemkbaaGreatDoorMXiWh
import Derived.Test.YtcadlcpccemkbaaGreatDoorMDwDl
namespace Go.Proofs.YtcadlcpccemkbaaGreatDoor.X
open Go.RowKit
set_option maxRecDepth 100000
attribute [local go_sem] not_any mf_any

theorem fixed4 (x : Nat) (w : World) (hx : x < 18446744073709551616) : Calls Tryz.prog 58 #[.int .u64 (x : Int), .int .i64 4] w fun e w' => e = .returned (.string (txt (fix x 4))) ∧ Below w.heap.size w w' :=
  fixed_step 3 x w (by omega) hx fun x w hx => fixed_step 2 x w (by omega) hx fun x w hx => fixed_step 1 x w (by omega) hx fun x w hx => fixed_step 0 x w (by omega) hx fun x w _ => fixed_zero x w

set_option maxHeartbeats 1000000 in
theorem rencode_bad (k o p q a : Int) (b : ByteArray) (w : World) (hc : chk k o p q a b.size ≠ 0) :
    Calls Tryz.prog 30 #[fra k o p q a b] w fun e w' => e = .returned (.tuple #[.string ⟨#[]⟩, .int .i64 (chk k o p q a b.size)]) ∧ Below w.heap.size w w' := by
  have mx := mixed
  have kC := fun w => hide1 (rcheck_any k o p q a b w)
  have hc' : (chk k o p q a b.size != 0) = true := by simpa using hc
  generalize chk k o p q a b.size = c at *
  unfold fra at *
  clear hc
  go_enter Tryz.func30, Tryz.ntmps30
  go_upto_region 1 with (fail)
  generalize hX : World.alloc w _ = X
  have HX : Hid (Below w.heap.size w X) := by rw [← hX]; exact below1 _
  have h0 := hX ▸ heap_alloc_new w _
  obtain ⟨c0, c1, c2, c3, c4, c5, l0⟩ := box6 h0
  have H0 := hide1 h0
  clear hX h0
  go_wp2_with fail
  refine (kC _).out.mono ?_
  rintro e w1 ⟨rfl, hb1⟩
  have HB1 := hide1 (HX.out.trans (hb1.mono HX.out.size))
  obtain ⟨d0, d1, d2, d3, d4, d5, l1⟩ := box6 ((hb1.block _ l0).trans H0.out)
  clear hb1 c0 c1 c2 c3 c4 c5
  go_wp2_with fail
  refine (kC _).out.mono ?_
  rintro e w2 ⟨rfl, hb2⟩
  go_wp2
  go_ret2
  exact ⟨rfl, HB1.out.trans (hb2.mono HB1.out.size)⟩

/- what is written ahead of the number j -/
def preB (k : Nat) (l : List Nat) (j : Nat) : List Nat := fix k 1 ++ ((l.take j).map (fun x => fix x 4)).flatten
theorem flat_lt : ∀ l : List Nat, Lt 256 ((l.map (fun x => fix x 4)).flatten) ∧ ((l.map (fun x => fix x 4)).flatten).length = 4 * l.length
  | [] => ⟨fun x hx => by simp at hx, rfl⟩
  | x :: l => by
    have := flat_lt l
    rw [List.map_cons, List.flatten_cons]
    exact ⟨(fix_lt 4 x).append this.1, by rw [List.length_append, fix_length, this.2, List.length_cons]; omega⟩
theorem preB_lt (k : Nat) (l : List Nat) (j : Nat) : Lt 256 (preB k l j) := (fix_lt 1 k).append (flat_lt _).1
theorem preB_length (k : Nat) (l : List Nat) (j : Nat) (h : j ≤ l.length) : (preB k l j).length = 1 + 4 * j := by
  rw [preB, List.length_append, fix_length, (flat_lt _).2, List.length_take, Nat.min_eq_left h]
theorem preB_step (k : Nat) (l : List Nat) (j x : Nat) (h : l[j]? = some x) : preB k l (j + 1) = preB k l j ++ fix x 4 := by
  rw [preB, preB, List.take_add_one, h, List.append_assoc]
  simp
theorem preB_zero (k : Nat) (l : List Nat) (h : k < 256) : preB k l 0 = [k] := by
  simp [preB, fix, Nat.mod_eq_of_lt h]
theorem preB_all (k o p q a : Nat) (b : ByteArray) : preB k [o, p, q, a] 4 ++ nums b = encB k o p q a b := by
  simp [preB, encB]
def u32s (l : List Nat) : List Value := l.map (fun x : Nat => Value.int IntKind.u32 (x : Int))
theorem u32_cell {w : World} {g j x : Nat} {l : List Nat} {t : TypeId} (h : w.heap[g]? = some (.cells (u32s l).toArray t (0, 0))) (hj : l[j]? = some x) : w.cell? ⟨g, j, none⟩ = some (.int .u32 (x : Int)) := by
  rw [cell_of_row w g j _ _ _ h]
  simp [u32s, hj]
theorem get_lt {α : Type} {l : List α} {k : Nat} (h : k < l.length) : ∃ x, l[k]? = some x := ⟨l[k], List.getElem?_eq_getElem h⟩

set_option maxHeartbeats 2000000 in
theorem rencode_ok (k o p q a : Nat) (b : ByteArray) (w : World) (hc : chk k o p q a b.size = 0) (ho : o < 4294967296) (hp : p < 4294967296) (hq : q < 4294967296) (ha : a < 4294967296) :
    Calls Tryz.prog 30 #[fra k o p q a b] w fun e w' => e = .returned (.tuple #[.string (txt (encB k o p q a b)), .int .i64 0]) ∧ Below w.heap.size w w' := by
  have mx := mixed
  have kC := fun w => hide1 (rcheck_any k o p q a b w)
  obtain ⟨hz, hk1, hk3⟩ := chk_size hc
  rw [hc] at kC
  have e8 : IntKind.u8.wrap (k : Int) = (k : Int) := by rw [IntKind.wrap_u8]; omega
  have e8' : (k : Int) % 256 = (k : Int) := by omega
  have HK : Shy (k < 256) := ⟨by omega⟩
  obtain ⟨L, hL⟩ : ∃ L, [o, p, q, a] = L := ⟨_, rfl⟩
  have HL : Shy (L.length = 4 ∧ (∀ x ∈ L, x < 4294967296) ∧ u32s L = [.int .u32 (o : Int), .int .u32 (p : Int), .int .u32 (q : Int), .int .u32 (a : Int)]) := ⟨by
    rw [← hL]
    refine ⟨rfl, ?_, rfl⟩
    intro x hx
    simp only [List.mem_cons, List.not_mem_nil, or_false] at hx
    omega⟩
  have HT : Shy (txt (preB k L 4) ++ b = txt (encB k o p q a b)) := ⟨by
    rw [← preB_all, hL, ← txt_append (preB_lt _ _ _) (nums_all b), txt_nums]⟩
  have HZ : Shy (b.size ≤ 65536) := ⟨hz⟩
  obtain ⟨T, hT⟩ : ∃ T, txt (encB k o p q a b) = T := ⟨_, rfl⟩
  rw [hT] at HT ⊢
  have cv := conv_new k
  rw [← preB_zero k L (by omega)] at cv
  clear hc hk1 hk3 ho hp hq ha hz hT hL
  unfold fra at *
  go_enter Tryz.func30, Tryz.ntmps30
  go_upto_region 1 with (fail)
  generalize hX : World.alloc w _ = X
  have HX : Hid (Below w.heap.size w X) := by rw [← hX]; exact below1 _
  have h0 := hX ▸ heap_alloc_new w _
  obtain ⟨g, hg⟩ : ∃ g, w.heap.size = g := ⟨_, rfl⟩
  rw [hg] at h0 ⊢
  clear hg hX
  obtain ⟨c0, c1, c2, c3, c4, c5, l0⟩ := box6 h0
  have H0 := hide1 h0
  clear h0
  go_wp2_with fail
  refine (kC _).out.mono ?_
  rintro e w1 ⟨rfl, hb1⟩
  have HB1 := hide1 (HX.out.trans (hb1.mono HX.out.size))
  have R1 := hide1 ((hb1.block _ l0).trans H0.out)
  obtain ⟨d0, d1, d2, d3, d4, d5, l1⟩ := box6 R1.out
  clear kC hb1 c0 c1 c2 c3 c4 c5 l0 H0 HX
  go_upto_region 4 with (fail)
  generalize hY : World.alloc w1 _ = Y
  have R2 : Hid (Y.heap[g]? = some (.cells #[.int .i64 (k : Int), .int .u32 (o : Int), .int .u32 (p : Int), .int .u32 (q : Int), .int .u32 (a : Int), .string b] 42 (0, 0))) := by rw [← hY]; exact (Below.heap_alloc _ _ _ l1).trans R1.out
  have HB2 : Hid (Below w.heap.size w Y) := by rw [← hY]; exact HB1.out.alloc HB1.out.size _
  clear hY R1 HB1 d0 d1 d2 d3 d4 d5 l1 cv
  obtain ⟨d0, d1, d2, d3, d4, d5, l1⟩ := box6 R2.out
  obtain ⟨T0, hT0⟩ : ∃ T, txt (preB k L 0) = T := ⟨_, rfl⟩
  have HT0 : Shy (txt (preB k L 0) = T0) := ⟨hT0⟩
  rw [hT0]
  clear hT0
  go_wp2_with fail
  generalize hV : World.alloc Y _ = V
  have F3 : Hid (V.heap[Y.heap.size]? = some (.cells (u32s L).toArray 22 (0, 0))) := by rw [← hV, HL.out.2.2]; exact heap_alloc_new Y _
  have R3 : Hid (V.heap[g]? = some (.cells #[.int .i64 (k : Int), .int .u32 (o : Int), .int .u32 (p : Int), .int .u32 (q : Int), .int .u32 (a : Int), .string b] 42 (0, 0))) := by rw [← hV]; exact (Below.heap_alloc _ _ _ l1).trans R2.out
  have HB3 : Hid (Below w.heap.size w V) := by rw [← hV]; exact HB2.out.alloc HB2.out.size _
  obtain ⟨b5, hb5⟩ : ∃ b, Y.heap.size = b := ⟨_, rfl⟩
  rw [hb5] at F3 ⊢
  have L5 := lt_heap F3.out
  have LG := lt_heap R3.out
  clear hV hb5 R2 HB2 d0 d1 d2 d3 d4 d5 l1
  go_loopw [4, 6] (fun sv iv wr => ∃ j : Nat, j ≤ 4 ∧ iv = .int .i64 j ∧ sv = .string (txt (preB k L j)) ∧ Below V.heap.size V wr) (fun _ iv _ => 4 - (intOf iv).toNat)
  case atStart => exact ⟨0, Nat.zero_le _, rfl, by rw [HT0.out], Below.refl _ _⟩
  case round =>
    obtain ⟨j, hj, rfl, rfl, hB⟩ := hrel
    have l5 : b5 < wr.heap.size := Nat.lt_of_lt_of_le L5 hB.size
    have HB := hide1 hB
    have hs1 : (txt (preB k L j)).size = 1 + 4 * j := by rw [txt_size (preB_lt _ _ _), preB_length _ _ _ (by have := HL.out.1; omega)]
    by_cases hlt : j < 4
    · obtain ⟨x, hx⟩ := get_lt (l := L) (k := j) (by have := HL.out.1; omega)
      have c1 := u32_cell ((hB.block _ L5).trans F3.out) hx
      have hxl : x < 4294967296 := HL.out.2.1 x (List.mem_of_getElem? hx)
      have kF := fun w => hide1 (fixed4 x w (by omega))
      have HS : Shy (txt (preB k L j) ++ txt (fix x 4) = txt (preB k L (j + 1))) := ⟨by rw [preB_step _ _ _ _ hx, txt_append (preB_lt _ _ _) (fix_lt _ _)]⟩
      have hs2 : (txt (fix x 4)).size = 4 := by rw [txt_size (fix_lt _ _), fix_length]
      have hss : ¬ (9223372036854775807 < (txt (preB k L j)).size + (txt (fix x 4)).size) := by omega
      have e1 : IntKind.u64.wrap (x : Int) = (x : Int) := by rw [IntKind.wrap_u64]; omega
      generalize txt (preB k L j) = A1 at *
      generalize txt (fix x 4) = A2 at *
      clear hs1 hs2 hx hB
      go_wp2_with (go_at_call 58; refine (kF _).out.mono ?_; rintro e w5 ⟨rfl, hb5⟩)
      go_roundw
      case rel => exact ⟨j + 1, by omega, by go_num, by rw [HS.out], HB.out.trans (hb5.mono HB.out.size)⟩
      case measure => simp [intOf]; omega
    · obtain rfl : j = 4 := by omega
      obtain ⟨d0, d1, d2, d3, d4, d5, l1⟩ := box6 ((hB.block _ LG).trans R3.out)
      have hss : ¬ (9223372036854775807 < (txt (preB k L 4)).size + b.size) := by have := HZ.out; omega
      generalize txt (preB k L 4) = A1 at *
      clear hs1 hB hlt hj
      go_wp2
      go_ret2
      exact ⟨by rw [← HT.out]; rfl, HB3.out.trans (HB.out.mono HB3.out.size)⟩
end Go.Proofs.YtcadlcpccemkbaaGreatDoor.X

namespace Go.Proofs.YtcadlcpccemkbaaGreatDoor
open Go.RowKit
set_option maxRecDepth 100000
attribute [local go_sem] not_any

theorem renc_any (k o p q a : Nat) (b : ByteArray) (w : World) (h : Fit k o p q a b) :
    Calls Tryz.prog 30 #[X.fra k o p q a b] w fun e w' => e = .returned (.tuple #[.string (tx k o p q a b), .int .i64 0]) ∧ Below w.heap.size w w' := X.rencode_ok k o p q a b w h.ok h.o h.p h.q h.a

set_option maxHeartbeats 2000000 in
theorem rframes_any {N : Nat} {x : Ls} {LLv hv lv z : Value} {l : List (Nat × ByteArray)} {w : World} (hx : x.Ok N) (hN : N + 1000 < 4294967296) (hz : Rnl w z l) (hl : Fms x l) :
    Calls Tryz.prog 54 #[rv x LLv hv lv, z] w fun e w' => ∃ r, e = .returned r ∧ Lst w.heap.size w' r (l.map x.frm) ∧ Below w.heap.size w w' := by
  have HZ := hide1 hz
  have HX := hide1 hx
  have HN := hide1 hN
  have HF := hide1 hl
  obtain ⟨za, zc, hzv, _⟩ := hz
  obtain ⟨zn, hzn⟩ : ∃ k, l.length = k := ⟨_, rfl⟩
  rw [hzn] at hzv
  subst hzv
  have HZN := hide1 hzn
  have hz1000 : zn ≤ 1000 := by have := HF.out.len; omega
  obtain ⟨a1, ha1⟩ : ∃ a1, x.a + 1 = a1 := ⟨_, rfl⟩
  have HA1 := hide1 ha1
  have hai : (x.a : Int) + 1 = (a1 : Int) := by omega
  have haw : IntKind.u32.wrap (a1 : Int) = (a1 : Int) := by have := hx.aN; rw [IntKind.wrap_u32]; omega
  have ham : (a1 : Int) % 4294967296 = (a1 : Int) := by have := hx.aN; omega
  unfold rv rcs
  rw [hai]
  clear hx hN hl hzn ha1 hai
  go_enter Tryz.func54, Tryz.ntmps54
  go_upto_region 3 with (fail)
  generalize hX : World.alloc w _ = W0
  have B0 : Hid (Below w.heap.size w W0) := by rw [← hX]; exact below1 _
  have R0 := hide1 (hX ▸ heap_alloc_new w _)
  obtain ⟨g2, hg2⟩ : ∃ g, w.heap.size = g := ⟨_, rfl⟩
  have HG2 := hide1 hg2
  rw [hg2] at R0 ⊢
  clear hX hg2
  go_loopw [5, 6] (fun p i wr => ∃ (j : Nat) (r : Value), j ≤ zn ∧ i = .int .i64 (j : Int) ∧ p = r ∧ Lst W0.heap.size wr r ((l.take j).map x.frm) ∧ Below W0.heap.size W0 wr) (fun _ i _ => 2000 - (intOf i).toNat)
  case atStart => exact ⟨0, _, Nat.zero_le _, rfl, rfl, Lst.nil _ _, Below.refl _ _⟩
  case round =>
    obtain ⟨j, r, hj, rfl, hr, hL, hB⟩ := hrel
    obtain rfl := hr.symm
    have HL := hide1 hL
    have HB := hide1 hB
    clear hL hB hr
    by_cases hjn : j < zn
    · have gin : (j : Int) < (zn : Int) := by omega
      have hjl : j < l.length := by have := HZN.out; omega
      have bw : Below w.heap.size w wr := B0.out.trans (HB.out.mono B0.out.size)
      obtain ⟨za', zc', e1, hc⟩ := HZ.out.below bw (Nat.le_refl _)
      rw [HZN.out] at e1
      cases e1
      obtain ⟨g1, o1, rfl, k1, k2⟩ := hc j hjl
      have MS := hide1 (map_snoc x.frm l j hjl)
      have HMEM := hide1 (HF.out.num _ (at_mem hjl))
      have HPE := hide1 (HF.out.peer (fun e => by rw [e] at hjl; simp at hjl))
      change Hid (_ ++ [tx 2 x.own x.peer (kAt l j) (x.a + 1) (sAt l j)] = _) at MS
      rw [HA1.out] at MS
      have kE := fun w => hide1 (renc_any 2 x.own x.peer (kAt l j) a1 (sAt l j) w ⟨chk_data HX.out.own0 HPE.out HMEM.out.1 HMEM.out.2.2, HX.out.own, HX.out.peer, HMEM.out.2.1, by have h1 := HX.out.aN; have h2 := HN.out; have h3 := HA1.out; omega⟩)
      generalize kAt l j = kn at k1 MS kE
      generalize sAt l j = b at k2 MS kE
      obtain ⟨T, hT⟩ : ∃ T, tx 2 x.own x.peer kn a1 b = T := ⟨_, rfl⟩
      rw [hT] at kE MS
      unfold X.fra at kE
      rw [show ((2 : Nat) : Int) = 2 from rfl] at kE
      obtain ⟨⟨c0, c1, c2, c3, c4⟩, ⟨c5, c6, c7, c8, c9⟩, _, _⟩ := box10 ((HB.out.block g2 (lt_heap R0.out)).trans R0.out)
      have C0 := hide1 c0
      have C1 := hide1 c1
      have C6 := hide1 c6
      have K1 := hide1 k1
      have K2 := hide1 k2
      have HAW := hide1 ham
      clear hT hc hjl bw c0 c1 c2 c3 c4 c5 c6 c7 c8 c9 k1 k2
      go_upto_region 5 with (fail)
      refine region_f (F := []) (S := fun X => (X.cell? ⟨g2, 0, none⟩ = some (.int .u32 (x.own : Int)) ∧ X.cell? ⟨g2, 1, none⟩ = some (.int .u32 (x.peer : Int)) ∧ X.cell? ⟨g2, 6, none⟩ = some (.int .i64 (a1 : Int))) ∧ X.cell? ⟨g1, o1 + j * 2, none⟩ = some (.int .u32 (kn : Int)) ∧ X.cell? ⟨g1, o1 + j * 2 + 1, none⟩ = some (.string b)) (by kernel_rfl) ⟨⟨C0.out, C1.out, C6.out⟩, K1.out, K2.out⟩ (fun hS => ?_)
      have LU : Hid (Lst W0.heap.size (World.drew wr) r ((l.take j).map x.frm)) := HL.out
      have BU : Hid (Below W0.heap.size W0 (World.drew wr)) := HB.out.drew
      generalize World.drew wr = WU at hS LU BU ⊢
      refine take_p 0 16 (.pointer (some ⟨g2, 0, none⟩)) rfl rfl (by kernel_rfl) (by kernel_rfl) (by kernel_rfl) (fun _ _ _ h => h) rfl (fun w => by go_simp) ?_
      try simp only [List.setIfInBounds_toArray, List.set_cons_zero, List.set_cons_succ]
      refine take_f 1 17 (.int .u32 (x.own : Int)) [18, 19, 20, 21, 22, 23, 24] rfl rfl (by kernel_rfl) (by kernel_rfl) (by kernel_rfl) (by kernel_rfl) (by kernel_rfl) (by kernel_rfl) (fun _ _ _ h => h) rfl (fun w hSw => by obtain ⟨⟨g0, g1, g6⟩, h1, h2⟩ := hSw; go_simp) hS ?_
      try simp only [List.setIfInBounds_toArray, List.set_cons_zero, List.set_cons_succ]
      refine take_p 2 18 (.pointer (some ⟨g2, 1, none⟩)) rfl rfl (by kernel_rfl) (by kernel_rfl) (by kernel_rfl) (fun _ _ _ h => h) rfl (fun w => by go_simp) ?_
      try simp only [List.setIfInBounds_toArray, List.set_cons_zero, List.set_cons_succ]
      refine take_f 3 19 (.int .u32 (x.peer : Int)) [18, 19, 20, 21, 22, 23, 24] rfl rfl (by kernel_rfl) (by kernel_rfl) (by kernel_rfl) (by kernel_rfl) (by kernel_rfl) (by kernel_rfl) (fun _ _ _ h => h) rfl (fun w hSw => by obtain ⟨⟨g0, g1, g6⟩, h1, h2⟩ := hSw; go_simp) hS ?_
      try simp only [List.setIfInBounds_toArray, List.set_cons_zero, List.set_cons_succ]
      refine take_p 4 20 (.slice (some ⟨g1, o1, none⟩) zn zc) rfl rfl (by kernel_rfl) (by kernel_rfl) (by kernel_rfl) (fun _ _ _ h => h) rfl (fun w => by go_simp) ?_
      try simp only [List.setIfInBounds_toArray, List.set_cons_zero, List.set_cons_succ]
      refine take_p 5 21 (.int .i64 (j : Int)) rfl rfl (by kernel_rfl) (by kernel_rfl) (by kernel_rfl) (fun _ _ _ h => h) rfl (fun w => by go_simp) ?_
      try simp only [List.setIfInBounds_toArray, List.set_cons_zero, List.set_cons_succ]
      refine take_p 6 22 (.pointer (some ⟨g1, o1 + j * 2, none⟩)) rfl rfl (by kernel_rfl) (by kernel_rfl) (by kernel_rfl) (fun _ _ _ h => h) rfl (fun w => by go_simp) ?_
      try simp only [List.setIfInBounds_toArray, List.set_cons_zero, List.set_cons_succ]
      refine take_p 7 23 (.pointer (some ⟨g1, o1 + j * 2, none⟩)) rfl rfl (by kernel_rfl) (by kernel_rfl) (by kernel_rfl) (fun _ _ _ h => h) rfl (fun w => by go_simp) ?_
      try simp only [List.setIfInBounds_toArray, List.set_cons_zero, List.set_cons_succ]
      refine take_f 8 24 (.int .u32 (kn : Int)) [18, 19, 20, 21, 22, 23, 24] rfl rfl (by kernel_rfl) (by kernel_rfl) (by kernel_rfl) (by kernel_rfl) (by kernel_rfl) (by kernel_rfl) (fun _ _ _ h => h) rfl (fun w hSw => by obtain ⟨⟨g0, g1, g6⟩, h1, h2⟩ := hSw; go_simp) hS ?_
      try simp only [List.setIfInBounds_toArray, List.set_cons_zero, List.set_cons_succ]
      refine take_p 9 25 (.pointer (some ⟨g2, 6, none⟩)) rfl rfl (by kernel_rfl) (by kernel_rfl) (by kernel_rfl) (fun _ _ _ h => h) rfl (fun w => by go_simp) ?_
      try simp only [List.setIfInBounds_toArray, List.set_cons_zero, List.set_cons_succ]
      refine take_p 10 26 (.pointer (some ⟨g2, 6, none⟩)) rfl rfl (by kernel_rfl) (by kernel_rfl) (by kernel_rfl) (fun _ _ _ h => h) rfl (fun w => by go_simp) ?_
      try simp only [List.setIfInBounds_toArray, List.set_cons_zero, List.set_cons_succ]
      refine take_f 11 27 (.int .i64 (a1 : Int)) [12, 18, 19, 20, 21, 22, 23, 24] rfl rfl (by kernel_rfl) (by kernel_rfl) (by kernel_rfl) (by kernel_rfl) (by kernel_rfl) (by kernel_rfl) (fun _ _ _ h => h) rfl (fun w hSw => by obtain ⟨⟨g0, g1, g6⟩, h1, h2⟩ := hSw; go_simp) hS ?_
      try simp only [List.setIfInBounds_toArray, List.set_cons_zero, List.set_cons_succ]
      refine take_p 12 28 (.int .u32 (a1 : Int)) rfl rfl (by kernel_rfl) (by kernel_rfl) (by kernel_rfl) (fun _ _ _ h => h) rfl (fun w => by have h9 := HAW.out; go_simp) ?_
      try simp only [List.setIfInBounds_toArray, List.set_cons_zero, List.set_cons_succ]
      refine take_p 13 29 (.slice (some ⟨g1, o1, none⟩) zn zc) rfl rfl (by kernel_rfl) (by kernel_rfl) (by kernel_rfl) (fun _ _ _ h => h) rfl (fun w => by go_simp) ?_
      try simp only [List.setIfInBounds_toArray, List.set_cons_zero, List.set_cons_succ]
      refine take_p 14 30 (.int .i64 (j : Int)) rfl rfl (by kernel_rfl) (by kernel_rfl) (by kernel_rfl) (fun _ _ _ h => h) rfl (fun w => by go_simp) ?_
      try simp only [List.setIfInBounds_toArray, List.set_cons_zero, List.set_cons_succ]
      refine take_p 15 31 (.pointer (some ⟨g1, o1 + j * 2, none⟩)) rfl rfl (by kernel_rfl) (by kernel_rfl) (by kernel_rfl) (fun _ _ _ h => h) rfl (fun w => by go_simp) ?_
      try simp only [List.setIfInBounds_toArray, List.set_cons_zero, List.set_cons_succ]
      refine take_p 16 32 (.pointer (some ⟨g1, o1 + j * 2 + 1, none⟩)) rfl rfl (by kernel_rfl) (by kernel_rfl) (by kernel_rfl) (fun _ _ _ h => h) rfl (fun w => by go_simp) ?_
      try simp only [List.setIfInBounds_toArray, List.set_cons_zero, List.set_cons_succ]
      refine take_f 17 33 (.string b) [18, 19, 20, 21, 22, 23, 24] rfl rfl (by kernel_rfl) (by kernel_rfl) (by kernel_rfl) (by kernel_rfl) (by kernel_rfl) (by kernel_rfl) (fun _ _ _ h => h) rfl (fun w hSw => by obtain ⟨⟨g0, g1, g6⟩, h1, h2⟩ := hSw; go_simp) hS ?_
      try simp only [List.setIfInBounds_toArray, List.set_cons_zero, List.set_cons_succ]
      refine take_p 18 34 (.agg #[.int .i64 2, .int .u32 (x.own : Int), .int .u32 (x.peer : Int), .int .u32 (kn : Int), .int .u32 (a1 : Int), .string b]) rfl rfl (by kernel_rfl) (by kernel_rfl) (by kernel_rfl) (fun _ _ _ h => h) rfl (fun w => by go_simp) ?_
      try simp only [List.setIfInBounds_toArray, List.set_cons_zero, List.set_cons_succ]
      refine ready_f 19 (o := { dst := some 35, op := Op.call { callee := Callee.value (Operand.func 30), args := #[Operand.tmp 34], argTypes := #[42] }, type := 82, pos := "ref.go:77", after := #[{ on := 18, ground := Ground.data }], guard := none }) (by kernel_rfl) rfl (fun K hK => ?_)
      go_simp
      refine (kE _).out.mono ?_
      rintro x9 WA ⟨rfl, hbA⟩
      refine hK.out _ _ (fun _ h => ?_) ?_
      · obtain ⟨⟨a0, a1, a6⟩, b1, b2⟩ := h
        exact ⟨⟨(hbA.cell (p := ⟨g2, _, none⟩) (World.block_lt_of_cell? _ _ a0)).trans a0, (hbA.cell (p := ⟨g2, _, none⟩) (World.block_lt_of_cell? _ _ a1)).trans a1, (hbA.cell (p := ⟨g2, _, none⟩) (World.block_lt_of_cell? _ _ a6)).trans a6⟩, (hbA.cell (p := ⟨g1, _, none⟩) (World.block_lt_of_cell? _ _ b1)).trans b1, (hbA.cell (p := ⟨g1, _, none⟩) (World.block_lt_of_cell? _ _ b2)).trans b2⟩
      clear hK K
      try simp only [Act.put, List.setIfInBounds_toArray, List.set_cons_zero, List.set_cons_succ]
      refine take_p 20 15 (.tuple #[.string T, .int .i64 0]) rfl rfl (by kernel_rfl) (by kernel_rfl) (by kernel_rfl) (fun _ _ _ h => h) rfl (fun w => by go_simp) ?_
      try simp only [List.setIfInBounds_toArray, List.set_cons_zero, List.set_cons_succ]
      refine take_p 21 36 (.string T) rfl rfl (by kernel_rfl) (by kernel_rfl) (by kernel_rfl) (fun _ _ _ h => h) rfl (fun w => by go_simp) ?_
      try simp only [List.setIfInBounds_toArray, List.set_cons_zero, List.set_cons_succ]
      refine take_p 22 37 (.int .i64 0) rfl rfl (by kernel_rfl) (by kernel_rfl) (by kernel_rfl) (fun _ _ _ h => h) rfl (fun w => by go_simp) ?_
      try simp only [List.setIfInBounds_toArray, List.set_cons_zero, List.set_cons_succ]
      refine take_p 23 7 (.string T) rfl rfl (by kernel_rfl) (by kernel_rfl) (by kernel_rfl) (fun _ _ _ h => h) rfl (fun w => by go_simp) ?_
      try simp only [List.setIfInBounds_toArray, List.set_cons_zero, List.set_cons_succ]
      refine take_p 24 8 (.int .i64 0) rfl rfl (by kernel_rfl) (by kernel_rfl) (by kernel_rfl) (fun _ _ _ h => h) rfl (fun w => by go_simp) ?_
      try simp only [List.setIfInBounds_toArray, List.set_cons_zero, List.set_cons_succ]
      refine done_f (by kernel_rfl) ?_ _
      have BA : Hid (Below W0.heap.size W0 (WA.alloc (.cells #[.string T] 9))) := (BU.out.trans (hbA.mono BU.out.size)).alloc (Nat.le_trans BU.out.size hbA.size) _
      have LA : Hid (Lst W0.heap.size (WA.alloc (.cells #[.string T] 9)) r ((l.take j).map x.frm)) := (LU.out.below hbA (Nat.le_refl _)).below (below1 _) (Nat.le_refl _)
      have RC := hide1 (Rdl.one WA T)
      have HLE : Hid (((l.take j).map x.frm).length + 1 ≤ 1000000 ∧ W0.heap.size ≤ (WA.alloc (.cells #[.string T] 9)).heap.size) := by
        have h1 := HF.out.len
        have h3 := BA.out.size
        refine ⟨?_, by omega⟩
        rw [List.length_map, List.length_take]
        omega
      clear hbA kE hS
      go_wp2_with (at_builtin; go_must (refine wpList_append_lst (C := [T]) rfl _ _ rfl rfl rfl LA.out RC.out HLE.out.1 HLE.out.2 ?_); intro r2 WE ho hg hf; have HO := hide1 ho; have HG := hide1 hg; have HFR := hide1 hf; clear ho hg hf)
      go_roundw
      case rel =>
        refine ⟨j + 1, r2, by omega, by go_num, rfl, ?_, ?_⟩
        · rw [← MS.out]
          exact HO.out
        · exact BA.out.grown HG.out BA.out.size (fun k hk => (LA.out.lt hk).1)
      case measure => simp [intOf]; omega
    · have gin : ¬ (j : Int) < (zn : Int) := by omega
      go_wp2
      go_ret
      have e : l.take j = l := List.take_of_length_le (by have := HZN.out; omega)
      have h9 := HL.out
      rw [e] at h9
      exact ⟨_, rfl, h9.mono B0.out.size, B0.out.trans (HB.out.mono B0.out.size)⟩

end Go.Proofs.YtcadlcpccemkbaaGreatDoor
