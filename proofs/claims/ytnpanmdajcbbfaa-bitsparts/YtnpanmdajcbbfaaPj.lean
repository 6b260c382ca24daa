/- Bits one behind the other: Join. -/
import Derived.Test.YtnpanmdajcbbfaaPi
import Derived.Test.YtnpanmdajcbbfaaPa
namespace Go.Proofs.Ytnpanmdajcbbfaa
open Go.RowKit
set_option maxRecDepth 100000
attribute [local go_sem] not_any mf_any field_words

/- bits in a list of such, in memory -/
structure Vs (w : World) (gs m : Nat) (vs : List (Nat × Option Addr × List Bool)) : Prop where
  len : vs.length = m
  at' : ∀ (k n : Nat) (a : Option Addr) (l : List Bool), vs[k]? = some (n, a, l) → w.cell? ⟨gs, k * 2, none⟩ = some (.int .i64 n) ∧ w.cell? ⟨gs, k * 2 + 1, none⟩ = some (.slice a (need n 64) (need n 64)) ∧ Vc 0 w n a l

theorem Vs.below {w w' : World} {gs m : Nat} {vs : List (Nat × Option Addr × List Bool)} (h : Vs w gs m vs) (hB : Below w.heap.size w w') : Vs w' gs m vs :=
  ⟨h.len, fun k n a l hk => by
    obtain ⟨h1, h2, h3⟩ := h.at' k n a l hk
    exact ⟨(hB.cell (p := ⟨gs, k * 2, none⟩) (block_lt_of_cell h1)).trans h1, (hB.cell (p := ⟨gs, k * 2 + 1, none⟩) (block_lt_of_cell h2)).trans h2, h3.below hB (Nat.le_refl _)⟩⟩

def joined (vs : List (Nat × Option Addr × List Bool)) (k : Nat) : List Bool := (vs.take k).flatMap (fun e => e.2.2)

theorem joined_zero (vs : List (Nat × Option Addr × List Bool)) : joined vs 0 = [] := rfl
theorem joined_succ {vs : List (Nat × Option Addr × List Bool)} {k n : Nat} {a : Option Addr} {l : List Bool} (h : vs[k]? = some (n, a, l)) : joined vs (k + 1) = joined vs k ++ l := by
  unfold joined
  rw [List.take_add_one, h]
  simp
theorem joined_le (vs : List (Nat × Option Addr × List Bool)) (k : Nat) : (joined vs k).length ≤ (vs.flatMap (fun e => e.2.2)).length := by
  have : vs.flatMap (fun e => e.2.2) = joined vs k ++ (vs.drop k).flatMap (fun e => e.2.2) := by
    unfold joined
    rw [← List.flatMap_append, List.take_append_drop]
  rw [this, List.length_append]
  omega
theorem joined_all {vs : List (Nat × Option Addr × List Bool)} {k : Nat} (h : vs.length ≤ k) : joined vs k = vs.flatMap (fun e => e.2.2) := by
  unfold joined
  rw [List.take_of_length_le h]

set_option maxHeartbeats 4000000 in
theorem join_any (w : World) (gs m c : Nat) (vs : List (Nat × Option Addr × List Bool)) (all : List Bool) (N : Nat) (hvs : Vs w gs m vs) (hm : m ≤ 1000) (hall : vs.flatMap (fun e => e.2.2) = all) (hN : all.length = N) (hle : N ≤ 4194304) :
    Calls Try.prog 27 #[.slice (some ⟨gs, 0, none⟩) m c] w fun e w' => ∃ a, e = .returned (.tuple #[.agg #[.int .i64 N, .slice a (need N 64) (need N 64)], .int .i64 0]) ∧ Vc w.heap.size w' N a all ∧ Below w.heap.size w w' := by
  have hAl := fun n w => hide1 (allowed_any n w)
  have hBl := fun w => hide1 (blank_any N w hle)
  have HVS := hide1 hvs
  have HJ : Hid (∀ k, (joined vs k).length ≤ N) := fun k => by rw [← hN, ← hall]; exact joined_le vs k
  have HJA : Hid (joined vs m = all) := by rw [← hall]; exact joined_all (by rw [hvs.len]; omega)
  have HNN := hide1 hN
  clear hvs hall hN
  go_enter Try.func27, Try.ntmps27
  go_wp2_with fail
  go_loopw [4, 13] (fun n i wr => ∃ k : Nat, k ≤ m ∧ i = .int .i64 k ∧ n = .int .i64 ((joined vs k).length : Nat) ∧ wr.heap[w.heap.size]? = some (.cells #[.int .i64 0, .slice none 0 0] 26 (0, 0)) ∧ Below w.heap.size w wr) (fun _ i _ => m - (intOf i).toNat)
  case atStart => exact ⟨0, Nat.zero_le _, rfl, rfl, heap_alloc_new _ _, below_alloc1 _ _⟩
  case round =>
    obtain ⟨k, hk, rfl, rfl, hbx, hB⟩ := hrel
    by_cases hlt : k < m
    · obtain ⟨⟨n, a, l⟩, hx⟩ : ∃ x, vs[k]? = some x := ⟨_, List.getElem?_eq_getElem (by rw [HVS.out.len]; exact hlt)⟩
      obtain ⟨c0, c1, hV⟩ := (HVS.out.below hB).at' k n a l hx
      have hj := HJ.out (k + 1)
      have HJS := hide1 (joined_succ hx)
      rw [HJS.out, List.length_append, hV.len] at hj
      have HBX := hide1 hbx
      have HV := hide1 hV
      clear hx hbx hV
      go_wp2_with fail
      refine (hAl _ _).out.mono ?_
      rintro e w2 ⟨rfl, rfl⟩
      have hd : (decide ((0 : Int) ≤ ((joined vs k).length : Int) + (n : Int)) && decide (((joined vs k).length : Int) + (n : Int) ≤ 4194304)) = true := by simp; omega
      rw [hd]
      go_wp2
      go_roundw
      case rel =>
        refine ⟨k + 1, by omega, by go_num, ?_, (Below.heap_alloc _ _ _ (lt_heap HBX.out)).trans HBX.out, hB.alloc hB.size _⟩
        rw [HJS.out, List.length_append, HV.out.len]
        go_num
      case measure => simp [intOf]; omega
    · obtain rfl : m = k := by omega
      rw [HJA.out, HNN.out]
      have HBX := hide1 hbx
      have HB := hide1 hB
      clear hbx hB
      go_wp2_with fail
      refine (hBl _).out.mono ?_
      rintro e w2 ⟨av, rfl, hv2, hb2⟩
      have HV2 := hide1 hv2
      have HX2 := hide1 ((hb2.block _ (lt_heap HBX.out)).trans HBX.out)
      have HB2 := hide1 (HB.out.trans (hb2.mono HB.out.size))
      have HLT := hide1 (lt_heap HBX.out)
      have HBS := hide1 HB.out.size
      obtain ⟨B1, hB1⟩ : ∃ B1, wr.heap.size = B1 := ⟨_, rfl⟩
      rw [hB1] at HV2 HLT HBS
      clear hv2 hb2 HBX HB hB1
      go_wp2_with fail
      go_loopw [8, 30] (fun s i wr => ∃ k : Nat, k ≤ m ∧ i = .int .i64 k ∧ s = .int .i64 ((joined vs k).length : Nat) ∧ Vc B1 wr N av (joined vs k ++ List.replicate (N - (joined vs k).length) false) ∧
          wr.heap[w.heap.size]? = some (.cells #[.int .i64 0, .slice none 0 0] 26 (0, 0)) ∧ wr.heap[w2.heap.size]? = some (.cells #[.int .i64 N, .slice av (need N 64) (need N 64)] 26 (0, 0)) ∧ Below w.heap.size w wr) (fun _ i _ => m - (intOf i).toNat)
      case atStart =>
        refine ⟨0, Nat.zero_le _, rfl, rfl, ?_, (Below.heap_alloc _ _ _ (lt_heap HX2.out)).trans HX2.out, heap_alloc_new _ _, HB2.out.alloc HB2.out.size _⟩
        rw [joined_zero]
        exact HV2.out.alloc _
      case round =>
        obtain ⟨k, hk', rfl, rfl, hV, hbx, hb7, hB⟩ := hrel
        by_cases hlt' : k < m
        · obtain ⟨⟨n, a, l⟩, hx⟩ : ∃ x, vs[k]? = some x := ⟨_, List.getElem?_eq_getElem (by rw [HVS.out.len]; exact hlt')⟩
          obtain ⟨c0, c1, hP⟩ := (HVS.out.below hB).at' k n a l hx
          have hj := HJ.out (k + 1)
          have HJS := hide1 (joined_succ hx)
          rw [HJS.out, List.length_append, hP.len] at hj
          have hpb : ∀ j, blk a = some j → j < B1 := fun j hj => Nat.lt_of_lt_of_le ((HVS.out.at' k n a l hx).2.2.blk j hj).2 HBS.out
          have hab : ∀ j, blk av = some j → j < w2.heap.size := fun j hj => (HV2.out.blk j hj).2
          have hav : ∀ j, blk av = some j → B1 ≤ j := fun j hj => (HV2.out.blk j hj).1
          have HL : Hid (Calls Try.prog 52 #[.agg #[.int .i64 N, .slice av (need N 64) (need N 64)], .int .i64 (joined vs k).length, .agg #[.int .i64 n, .slice a (need n 64) (need n 64)]] (wr.alloc (.cells #[.int .i64 n, .slice a (need n 64) (need n 64)] 26)) fun e w' => e = .returned (.tuple #[]) ∧ Vc B1 w' N av (joined vs (k + 1) ++ List.replicate (N - (joined vs (k + 1)).length) false) ∧
              w'.heap[w.heap.size]? = some (.cells #[.int .i64 0, .slice none 0 0] 26 (0, 0)) ∧ w'.heap[w2.heap.size]? = some (.cells #[.int .i64 N, .slice av (need N 64) (need N 64)] 26 (0, 0)) ∧ w'.heap[wr.heap.size]? = some (.cells #[.int .i64 n, .slice a (need n 64) (need n 64)] 26 (0, 0)) ∧ Below w.heap.size w w') := by
            refine (lay_any _ _ _ N n (joined vs k).length av a _ l (hV.alloc _) (hP.alloc _) hpb hle hj (fun x hx => by rw [append_getD, if_neg (by omega), falses_getD])).mono ?_
            rintro e w' ⟨rfl, hv', hg'⟩
            have hl7 := lt_heap hb7
            have hl0 := lt_heap hbx
            refine ⟨rfl, ?_, (hg'.block _ (by simp; omega) (fun e => by have := hav _ e.symm; have := HLT.out; omega)).trans ((Below.heap_alloc _ _ _ hl0).trans hbx), (hg'.block _ (by simp; omega) (fun e => by have := hab _ e.symm; omega)).trans ((Below.heap_alloc _ _ _ hl7).trans hb7), (hg'.block _ (by simp) (fun e => by have := hab _ e.symm; omega)).trans (heap_alloc_new _ _), (hB.alloc hB.size _).grown hg' (by have := hB.size; simp; omega) (fun j hj => by have := hav j hj; have := HBS.out; omega)⟩
            rw [HJS.out, ← laid_all (joined vs k) l (by rw [hP.len]; exact hj), hP.len]
            exact hv'
          have HLL := hide1 hP.len
          obtain ⟨d0, d1, _, _, d4⟩ := box2 hb7
          clear hx hbx hV hP hb7 hpb hab hav
          go_wp2_with fail
          refine HL.out.mono ?_
          rintro e w3 ⟨rfl, hv3, hx3, h73, hn3, hB3⟩
          obtain ⟨e0, e1, _, _, e4⟩ := box2 hn3
          have V3 := hide1 hv3
          have X3 := hide1 hx3
          have S3 := hide1 h73
          clear hv3 hx3 h73 hn3
          go_wp2
          go_roundw
          case rel =>
            refine ⟨k + 1, by omega, by go_num, ?_, V3.out, X3.out, S3.out, hB3⟩
            rw [HJS.out, List.length_append, HLL.out]
            go_num
          case measure => simp [intOf]; omega
        · obtain rfl : m = k := by omega
          rw [HJA.out, HNN.out, Nat.sub_self, List.replicate_zero, List.append_nil] at hV
          obtain ⟨d0, d1, _, _, d4⟩ := box2 hb7
          obtain ⟨e0, e1, e2, e3, e4⟩ := box2 hbx
          have V3 := hide1 hV
          have X3 := hide1 hbx
          clear hV hbx
          go_wp2
          refine ret_vec2 Try.results27 w.heap.size _ _ _ rfl rfl (set_box2 X3.out) rfl ⟨_, rfl, ?_, ?_⟩
          · exact ((V3.out.setCell (by simp; exact HLT.out) _).setCell (by simp; exact HLT.out) _).mono HBS.out
          · exact (hB.setCell (Nat.le_refl _) _).setCell (Nat.le_refl _) _

end Go.Proofs.Ytnpanmdajcbbfaa
