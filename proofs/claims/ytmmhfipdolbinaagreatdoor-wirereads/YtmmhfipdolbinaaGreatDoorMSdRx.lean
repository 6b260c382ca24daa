/- The reader's end. Words of a list. -/
import Derived.Test.YtmmhfipdolbinaaGreatDoorRw
namespace Go.Proofs.YtmmhfipdolbinaaGreatDoor
open Go.RowKit
set_option maxRecDepth 100000
attribute [local go_sem] not_any mf_any

/- an error in memory: none, or what New made -/
def ErrIs (w : World) (c : Int) (f : ByteArray) (v : Value) : Prop := (c = 0 ∧ v = .nilIface) ∨ (c ≠ 0 ∧ ∃ p, v = .iface 147 (.pointer (some ⟨p, 0, none⟩)) ∧ w.heap[p]? = some (flt c f))
def tENDs : ByteArray := ⟨#[101, 110, 100]⟩

theorem end_all (g k : Nat) (s f : ByteArray) (w : World) (h : w.heap[g]? = some (rdr s k 0 f)) (hk : k = s.size) :
    Calls Tryz.prog 25 #[.pointer (some ⟨g, 0, none⟩)] w fun e w' => e = .returned .nilIface ∧ w'.heap[g]? = some (rdr s k 0 f) ∧ But g w w' := by
  obtain ⟨c0, c1, c2, c3, c4, lt⟩ := rd_cells h
  have k0 := fun q => hide1 (isNone_no g (w.drewN q) c0)
  have k1 := fun q => hide1 (err_none g k s f (w.drewN q) h)
  have HR := hide1 h
  have hkd : decide ((k : Int) < (s.size : Int)) = false := by rw [decide_eq_false_iff_not]; omega
  have hkd2 : decide (k < s.size) = false := by rw [decide_eq_false_iff_not]; omega
  have mx := mixed
  clear h hk
  go_enter Tryz.func25, Tryz.ntmps25
  go_upto_region 1 with (fail)
  go_quiet ((go_at_call 65; exact Calls.quiet_of_same (k0 _).out))
  go_wp2_with (go_at_call 29; refine (k1 _).out.mono ?_; rintro e w1 ⟨rfl, q, rfl⟩)
  go_ret
  exact ⟨rfl, HR.out, ⟨rfl, rfl, rfl, Nat.le_refl _, fun _ _ _ => rfl⟩⟩

theorem end_tail (g k : Nat) (s f : ByteArray) (w : World) (h : w.heap[g]? = some (rdr s k 0 f)) (hk : k < s.size) :
    Calls Tryz.prog 25 #[.pointer (some ⟨g, 0, none⟩)] w fun e w' => ∃ p, e = .returned (.iface 147 (.pointer (some ⟨p, 0, none⟩))) ∧ w'.heap[p]? = some (flt 14 tENDs) ∧ w'.heap[g]? = some (rdr s k 14 tENDs) ∧ But g w w' := by
  obtain ⟨c0, c1, c2, c3, c4, lt⟩ := rd_cells h
  have k0 := fun q => hide1 (isNone_no g (w.drewN q) c0)
  have k1 := fun q => hide1 (fail_any g k s f tENDs 14 (w.drewN q) h (by decide))
  have k2 := fun q => hide1 (err_some g k s tENDs 14 _ (rd_fault (w := w.drewN q) h 14 tENDs) (by decide))
  have HR := fun q => hide1 (rd_fault (w := w.drewN q) h 14 tENDs)
  have HLT := hide1 lt
  have hkd : (k : Int) < (s.size : Int) := by omega
  have mx := mixed
  unfold tENDs at k1 k2 HR
  clear h
  go_enter Tryz.func25, Tryz.ntmps25
  go_upto_region 1 with (fail)
  go_quiet ((go_at_call 65; exact Calls.quiet_of_same (k0 _).out))
  go_wp2_with fail
  refine (k1 _).out.mono ?_
  rintro e w1 ⟨rfl, rfl⟩
  go_wp2_with fail
  refine (k2 _).out.mono ?_
  rintro e w2 ⟨rfl, q, rfl⟩
  have HF := hide1 (HR nq).out
  obtain ⟨Z, hZ⟩ : ∃ Z, ((w.drewN nq).setCell ⟨g, 3, none⟩ (.int .i64 14)).setCell ⟨g, 4, none⟩ (.string ⟨#[101, 110, 100]⟩) = Z := ⟨_, rfl⟩
  have HBT : Hid (But g w Z) := by rw [← hZ]; exact ((((But.refl g w).drewN nq).trans (But.set g 3 _ _)).trans (But.set g 4 _ _))
  have hlz : g < Z.heap.size := by rw [← hZ]; simpa using HLT.out
  rw [hZ] at HF ⊢
  clear hZ k0 k1 k2 HR
  go_wp2
  go_ret
  exact ⟨_, rfl, heap_alloc_new _ _, (Below.heap_alloc _ _ _ hlz).trans HF.out, (HBT.out.trans (But.alloc g _ _)).drewN _⟩

theorem end_over (g k : Nat) (s f : ByteArray) (c : Int) (w : World) (h : w.heap[g]? = some (rdr s k c f)) (hc : c ≠ 0) :
    Calls Tryz.prog 25 #[.pointer (some ⟨g, 0, none⟩)] w fun e w' => ∃ p, e = .returned (.iface 147 (.pointer (some ⟨p, 0, none⟩))) ∧ w'.heap[p]? = some (flt c f) ∧ w'.heap[g]? = some (rdr s k c f) ∧ But g w w' := by
  obtain ⟨c0, c1, c2, c3, c4, lt⟩ := rd_cells h
  have k0 := fun q => hide1 (isNone_no g (w.drewN q) c0)
  have k1 := fun q => hide1 (fail_over g k s f tENDs c 14 (w.drewN q) h hc)
  have k2 := fun q => hide1 (err_some g k s f c (w.drewN q) h hc)
  have HR := hide1 h
  have HLT := hide1 lt
  have mx := mixed
  unfold tENDs at k1
  clear h
  by_cases hk : k < s.size
  · have hkd : (k : Int) < (s.size : Int) := by omega
    go_enter Tryz.func25, Tryz.ntmps25
    go_upto_region 1 with (fail)
    go_quiet ((go_at_call 65; exact Calls.quiet_of_same (k0 _).out))
    go_wp2_with fail
    refine (k1 _).out.mono ?_
    rintro e w1 ⟨rfl, rfl⟩
    go_wp2_with fail
    refine (k2 _).out.mono ?_
    rintro e w2 ⟨rfl, q, rfl⟩
    go_wp2
    go_ret
    exact ⟨_, rfl, heap_alloc_new (w.drewN nq) _, (Below.heap_alloc (w.drewN nq) _ _ HLT.out).trans HR.out, (((But.refl g w).drewN nq).trans (But.alloc g _ _)).drewN _⟩
  · have hkd : decide ((k : Int) < (s.size : Int)) = false := by rw [decide_eq_false_iff_not]; omega
    have hkd2 : decide (k < s.size) = false := by rw [decide_eq_false_iff_not]; omega
    go_enter Tryz.func25, Tryz.ntmps25
    go_upto_region 1 with (fail)
    go_quiet ((go_at_call 65; exact Calls.quiet_of_same (k0 _).out))
    go_wp2_with fail
    refine (k2 _).out.mono ?_
    rintro e w2 ⟨rfl, q, rfl⟩
    go_wp2
    go_ret
    exact ⟨_, rfl, heap_alloc_new (w.drewN nq) _, (Below.heap_alloc (w.drewN nq) _ _ HLT.out).trans HR.out, (((But.refl g w).drewN nq).trans (But.alloc g _ _)).drewN _⟩
end Go.Proofs.YtmmhfipdolbinaaGreatDoor

namespace Go.Proofs.YtmmhfipdolbinaaGreatDoor
open Go.RowKit
set_option maxRecDepth 100000
attribute [local go_sem] not_any mf_any

theorem run_cut (s : ByteArray) (p q : Nat) (h1 : p ≤ q) (h2 : q ≤ s.size) (w : World) : (Instr.slice 9 (.string s) (some (.int .i64 (p : Int))) (some (.int .i64 (q : Int))) none).run Tryz.prog w = .ok (.string (s.extract p q)) w := by
  have := run_slice_string (P := Tryz.prog) w 9 s .i64 .i64 (p : Int) (q : Int) Tryz.underlying9 (by omega) (by omega) (by omega)
  simpa using this

/- the words that bytes say, n bytes each -/
def wordK (n : Nat) (H : List Nat) (i : Nat) : Nat := val ((H.drop (i * n)).take n)
def wordsP (n cnt : Nat) (H : List Nat) : List Nat := (List.range cnt).map (wordK n H)
theorem wordsP_length (n cnt : Nat) (H : List Nat) : (wordsP n cnt H).length = cnt := by simp [wordsP]
theorem wordsP_get {n cnt i : Nat} {H : List Nat} (h : i < cnt) : (wordsP n cnt H)[i]? = some (wordK n H i) := by simp [wordsP, h]
def FitsW (wd : Nat) (ws : List Nat) : Prop := ∀ x ∈ ws, x < 2 ^ wd
theorem wordK_lt {n i : Nat} {H : List Nat} (h : Lt 256 H) (hn : n ≤ 8) : wordK n H i < 18446744073709551616 :=
  val_lt64 ((h.drop _).take _) (by rw [List.length_take]; omega)

/- the first k words, the others 0 -/
def wordsTo (n cnt : Nat) (H : List Nat) (k : Nat) : List Nat := (List.range cnt).map (fun i => if i < k then wordK n H i else 0)
theorem wordsTo_length (n cnt : Nat) (H : List Nat) (k : Nat) : (wordsTo n cnt H k).length = cnt := by simp [wordsTo]
theorem wordsTo_zero (n cnt : Nat) (H : List Nat) : wordsTo n cnt H 0 = List.replicate cnt 0 := by
  unfold wordsTo
  apply List.ext_getElem?
  intro i
  by_cases h : i < cnt <;> simp [h]
theorem wordsTo_all (n cnt : Nat) (H : List Nat) : wordsTo n cnt H cnt = wordsP n cnt H := by
  unfold wordsTo wordsP
  apply List.map_congr_left
  intro i hi
  rw [if_pos (by simpa using hi)]
theorem wordsTo_succ {n cnt k : Nat} (H : List Nat) (hk : k < cnt) : wordsTo n cnt H (k + 1) = (wordsTo n cnt H k).set k (wordK n H k) := by
  apply List.ext_getElem?
  intro i
  rw [List.getElem?_set, wordsTo_length]
  by_cases hi : i < cnt
  · by_cases h : k = i
    · subst h
      simp [wordsTo, hi]
    · rw [if_neg h]
      have e : (i < k + 1) = (i < k) := by apply propext; omega
      simp [wordsTo, hi, e]
  · have h1 : ¬ k = i := by omega
    rw [if_neg h1, List.getElem?_eq_none (by rw [wordsTo_length]; omega), List.getElem?_eq_none (by rw [wordsTo_length]; omega)]

def WLPost (wd cnt : Nat) (ws : List Nat) (w : World) (e : Ending) (w' : World) : Prop :=
  (FitsW wd ws → ∃ a, e = .returned (.tuple #[.slice a cnt cnt, .int .i64 0]) ∧ Nl w' cnt a ws ∧ ∀ p, a = some p → w.heap.size ≤ p.block) ∧
  (¬ FitsW wd ws → e = .returned (.tuple #[.slice none 0 0, .int .i64 13])) ∧ Below w.heap.size w w'

theorem shr_zero {x wd : Nat} (h : x < 2 ^ wd) : ((x : Int) / 2 ^ wd != 0) = false := by
  have : (x : Int) / 2 ^ wd = ((x / 2 ^ wd : Nat) : Int) := by rw [Int.natCast_ediv, Int.natCast_pow]; rfl
  rw [this, Nat.div_eq_of_lt h]
  rfl
theorem shr_some {x wd : Nat} (h : ¬ x < 2 ^ wd) : ((x : Int) / 2 ^ wd != 0) = true := by
  have e : (x : Int) / 2 ^ wd = ((x / 2 ^ wd : Nat) : Int) := by rw [Int.natCast_ediv, Int.natCast_pow]; rfl
  have h1 : 0 < x / 2 ^ wd := Nat.div_pos (by omega) (Nat.pow_pos (by omega))
  rw [e, bne_iff_ne]
  omega

set_option maxHeartbeats 2000000 in
theorem lwords_any (wd cnt n : Nat) (t : ByteArray) (w : World) (h1 : 1 ≤ wd) (h2 : wd ≤ 64) (hn : n = (wd + 7) / 8) (hcnt : cnt ≤ 65536) (ht : t.size = cnt * n) :
    Calls Tryz.prog 54 #[.agg #[.int .i64 (cnt : Int), .string t], .int .i64 (wd : Int)] w (WLPost wd cnt (wordsP n cnt (nums t)) w) := by
  have hn8 : n ≤ 8 := by omega
  have k1 := fun w => hide1 (bytesFor_any wd w (by omega))
  rw [← hn] at k1
  have hmk := make_words cnt (by omega)
  have HT := hide1 ht
  have hwd : (wd : Int) ≤ 64 := by omega
  have HNO : Hid ((∃ k, k < cnt ∧ ¬ wordK n (nums t) k < 2 ^ wd) → ∀ w', Below w.heap.size w w' → WLPost wd cnt (wordsP n cnt (nums t)) w (.returned (.tuple #[.slice none 0 0, .int .i64 13])) w') := fun ⟨k, hk, hx⟩ w' hb =>
    ⟨fun hf => absurd (hf _ (List.mem_of_getElem? (wordsP_get hk))) hx, fun _ => rfl, hb⟩
  have HYES : Hid ((∀ k, k < cnt → wordK n (nums t) k < 2 ^ wd) → ∀ w' g, w.heap.size ≤ g → w'.heap[g]? = some (wrow (wordsP n cnt (nums t))) → Below w.heap.size w w' → WLPost wd cnt (wordsP n cnt (nums t)) w (.returned (.tuple #[.slice (some ⟨g, 0, none⟩) cnt cnt, .int .i64 0])) w') := fun hf w' g hg hrow hb =>
    have hF : FitsW wd (wordsP n cnt (nums t)) := fun x hx => by
      obtain ⟨k, hk, rfl⟩ := List.mem_map.1 hx
      exact hf k (List.mem_range.1 hk)
    ⟨fun _ => ⟨_, rfl, ⟨wordsP_length _ _ _, fun j x hj => ⟨g, 0, rfl, by rw [Nat.zero_add]; exact row_cell hrow hj⟩⟩, fun p hp => by cases hp; exact hg⟩, fun h => absurd hF h, hb⟩
  have HA := hide1 (nums_all t)
  generalize WLPost wd cnt (wordsP n cnt (nums t)) w = PP at *
  clear ht hn h1 h2
  go_enter Tryz.func54, Tryz.ntmps54
  go_wp2_with (go_at_call 53; refine (k1 _).out.mono ?_; rintro e w1 ⟨rfl, hw1⟩; cases hw1)
  clear hmk k1
  go_loopw [16] (fun i wr => ∃ k : Nat, k ≤ cnt ∧ i = .int .i64 k ∧ wr.heap[w.heap.size + 1]? = some (wrow (wordsTo n cnt (nums t) k)) ∧ wr.heap[w.heap.size]? = some (.cells #[.int .i64 (cnt : Int), .string t] 88 (0, 0)) ∧ Below w.heap.size w wr ∧ ∀ j, j < k → wordK n (nums t) j < 2 ^ wd) (fun i _ => cnt - (intOf i).toNat)
  case atStart =>
    refine ⟨0, Nat.zero_le _, rfl, ?_, heap_alloc2_old _ _ _, ((Below.refl _ _).alloc (Nat.le_refl _) _).alloc (by simp) _, fun j hj => by omega⟩
    rw [wordsTo_zero]
    exact heap_alloc2_new _ _ _
  case round =>
    obtain ⟨k, hk, rfl, hr, hx, hB, hall⟩ := hrel
    by_cases hlt : k < cnt
    · obtain ⟨p, hp⟩ : ∃ p, p = k * n := ⟨_, rfl⟩
      obtain ⟨q, hq⟩ : ∃ q, q = (k + 1) * n := ⟨_, rfl⟩
      have hpq : q = p + n := by rw [hq, hp, Nat.succ_mul]
      have hqt : q ≤ t.size := by rw [HT.out, hq]; exact Nat.mul_le_mul_right n hlt
      have hq6 : q ≤ 524288 := by rw [hq]; exact Nat.le_trans (Nat.mul_le_mul (show k + 1 ≤ 65536 by omega) hn8) (by decide)
      have ep : (k : Int) * (n : Int) = (p : Int) := by rw [hp, Int.natCast_mul]
      have eq : ((k : Int) + 1) * (n : Int) = (q : Int) := by rw [hq, Int.natCast_mul]; rfl
      have ep2 : IntKind.i64.wrap (p : Int) = (p : Int) := by rw [IntKind.wrap_i64]; omega
      have eq2 : IntKind.i64.wrap (q : Int) = (q : Int) := by rw [IntKind.wrap_i64]; omega
      have hcut := run_cut t p q (by omega) hqt
      have hsz : (t.extract p q).size ≤ 8 := by rw [size_nums, nums_extract, List.length_drop, List.length_take]; omega
      have k2 := fun w => hide1 (numberOf_any (t.extract p q) w hsz)
      have ev : val (nums (t.extract p q)) = wordK n (nums t) k := by rw [wordK, nums_extract, List.drop_take, ← hp, show q - p = n by omega]
      rw [ev] at k2
      have hv := wordK_lt (i := k) HA.out hn8
      have HS := hide1 (wordsTo_succ (n := n) (nums t) hlt)
      have hfz := frozen_of_row wr (w.heap.size + 1) k _ _ hr
      have hcc : ∃ y, wr.cell? ⟨w.heap.size + 1, k, none⟩ = some (.int .u64 (y : Nat)) := ⟨_, row_cell hr (List.getElem?_eq_getElem (by rw [wordsTo_length]; exact hlt))⟩
      obtain ⟨y, hcc⟩ := hcc
      obtain ⟨d0, d1, _, _, l1⟩ := box2 hx
      have l2 := lt_heap hr
      have HR := hide1 hr
      have HX := hide1 hx
      have HALL := hide1 hall
      have HBB := hide1 hB
      obtain ⟨v, hvv⟩ : ∃ v, wordK n (nums t) k = v := ⟨_, rfl⟩
      have HV : Shy (wordK n (nums t) k = v) := ⟨hvv⟩
      rw [hvv] at k2 hv HS
      generalize t.extract p q = t1 at *
      clear hr hx hall hB ev hvv hp hq hpq
      by_cases hfit : v < 2 ^ wd
      · have hs0 := shr_zero hfit
        have HF := hide1 hfit
        clear hfit
        go_wp2_with (go_at_call 78; refine (k2 _).out.mono ?_; rintro e w1 ⟨rfl, hw1⟩; cases hw1)
        go_roundw
        case rel =>
          refine ⟨k + 1, by omega, by go_num, ?_, ?_, HBB.out.setCell (by simp) _, fun j hj => ?_⟩
          · rw [HS.out]
            exact wset HR.out
          · exact (Below.heap_setCell _ _ _ _ (by simp)).trans HX.out
          · by_cases hjk : j < k
            · exact HALL.out j hjk
            · obtain rfl : j = k := by omega
              rw [HV.out]; exact HF.out
        case measure => simp [intOf]; omega
      · have hs0 := shr_some hfit
        have HF := hide1 hfit
        clear hfit
        go_wp2_with (go_at_call 78; refine (k2 _).out.mono ?_; rintro e w1 ⟨rfl, hw1⟩; cases hw1)
        exact HNO.out ⟨k, hlt, by rw [HV.out]; exact HF.out⟩ _ (HBB.out.setCell (by simp) _)
    · obtain rfl : k = cnt := by omega
      rw [wordsTo_all] at hr
      go_wp2
      exact HYES.out hall _ _ (by omega) hr hB
end Go.Proofs.YtmmhfipdolbinaaGreatDoor
