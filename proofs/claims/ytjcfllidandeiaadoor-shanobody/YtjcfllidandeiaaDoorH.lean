/- A block's words: gather. -/
import Derived.Test.YtjcfllidandeiaaDoorG
import Derived.Test.YtjcfllidandeiaaDoorE
namespace Go.Proofs.YtjcfllidandeiaaDoor
open Go.RowKit
set_option maxRecDepth 100000
attribute [local go_sem] not_any

def cutAt (a : Option Addr) (c q : Nat) : Option Addr := if c = q then a else a.map (·.add (q * 1))

theorem run_cutl (w : World) (a : Option Addr) (n c q : Nat) (h1 : q ≤ n) :
    (Instr.slice 50 (.slice a n c) (some (.int .i64 q)) none none).run Tryd.prog w = .ok (.slice (cutAt a c q) (n - q) (c - q)) w := by
  have hs : (sizeOf 5).run Tryd.prog w = .ok 1 w := by kernel_rfl
  have a1 : (q : Int) ≤ (n : Int) := by omega
  simp [Instr.slice, run_underlying Tryd.underlying50, Instr.sliceBounds, run_sliceBound, a1, cutAt]

theorem by_cut {w : World} {n c q : Nat} {a : Option Addr} {l : List Nat} (h : By w n a l) (h1 : q ≤ n) (h3 : n ≤ c) : By w (n - q) (cutAt a c q) (l.drop q) := by
  refine ⟨by simp [h.len], fun j hj => ?_⟩
  obtain ⟨g, o, rfl, hc⟩ := h.at' (q + j) (by omega)
  refine ⟨g, o + q, ?_, ?_⟩
  · unfold cutAt
    rw [if_neg (by omega), Nat.mul_one]
    simp [Addr.add_lit]
  · rw [at0_drop, Nat.add_assoc]
    exact hc

theorem By.below {B : Nat} {w w' : World} {m : Nat} {a : Option Addr} {l : List Nat} (h : By w m a l) (hB : Below B w w') (hs : w.heap.size ≤ B) : By w' m a l :=
  ⟨h.len, fun j hj => by
    obtain ⟨g, o, h1, h2⟩ := h.at' j hj
    exact ⟨g, o, h1, (hB.cell (p := ⟨g, o + j, none⟩) (by have := lt_cell h2; simp at this ⊢; omega)).trans h2⟩⟩

theorem wordAt_drop (l : List Nat) (q : Nat) : wordAt (l.drop q) 0 = wordAt l q := by
  simp [wordAt, at0_drop]
theorem drop_min (l : List Nat) (m k : Nat) (h : l.length = m) : wordAt (l.drop (min (4 * k) m)) 0 = wordAt l (4 * k) := by
  rw [wordAt_drop]
  by_cases h4 : 4 * k ≤ m
  · rw [Nat.min_eq_left h4]
  · rw [Nat.min_eq_right (by omega)]
    unfold wordAt
    rw [at0_none (by omega), at0_none (by omega), at0_none (by omega), at0_none (by omega), at0_none (by omega), at0_none (by omega), at0_none (by omega), at0_none (by omega)]

set_option maxHeartbeats 2000000 in
theorem gather_any (l : List Nat) (m c : Nat) (a : Option Addr) (w : World) (hm : m ≤ 64) (hc : m ≤ c) (h : By w m a l) (hl : Lt 256 l) :
    Calls Tryd.prog 23 #[.slice a m c] w fun e w' => e = .returned (arr32 (wordsOf l)) ∧ Below w.heap.size w w' := by
  have H := hide1 h
  have HL := hide1 hl
  have Hc := hide1 hc
  clear h hl hc
  go_enter Tryd.func23, Tryd.ntmps23
  go_upto_block 0 with (fail)
  generalize hW : World.alloc (World.alloc w _) _ = W
  have h1 : W.heap[w.heap.size]? = some (row32 54 (zeros 16)) := by rw [← hW]; exact heap_alloc2_old _ _ _
  have h2 : W.heap[w.heap.size + 1]? = some (row32 54 (zeros 16)) := by rw [← hW]; exact heap_alloc2_new _ _ _
  have hb : Below w.heap.size w W := by rw [← hW]; exact ((Below.refl _ _).alloc (Nat.le_refl _) _).alloc (by simp) _
  have H1 := hide1 h1
  have H2 := hide1 h2
  have HB := hide1 hb
  clear hW h1 h2 hb
  go_wp2
  go_loopw [5] (fun i wr => ∃ k : Nat, k ≤ 16 ∧ i = .int .i64 k ∧ wr.heap[w.heap.size + 1]? = some (row32 54 (told (fun i => wordAt l (4 * i)) (zeros 16) k)) ∧ Below (w.heap.size + 1) W wr) (fun i _ => 16 - (intOf i).toNat)
  case atStart => exact ⟨0, Nat.zero_le _, rfl, by rw [told_zero]; exact H2.out, Below.refl _ _⟩
  case round =>
    obtain ⟨k, hk, rfl, hrow, hbe⟩ := hrel
    clear H2
    by_cases hlt : k < 16
    · have f1 := frozen_of_row wr (w.heap.size + 1) k _ _ hrow
      have c1 := cell32 hrow (j := k) (by rw [told_length, zeros_length]; exact hlt)
      have HT : Hid (told (fun i => wordAt l (4 * i)) (zeros 16) (k + 1) = (told (fun i => wordAt l (4 * i)) (zeros 16) k).set k (wordAt l (4 * k))) := told_succ _ _ (by rw [zeros_length]; exact hlt)
      obtain ⟨p, hp⟩ : ∃ p, p = 4 * k := ⟨_, rfl⟩
      have e4 : 4 * (k : Int) = (p : Int) := by omega
      have hwr := (H.out.below HB.out (Nat.le_refl _)).below hbe
      have hB2 : Below w.heap.size w wr := HB.out.trans (hbe.mono (by omega))
      have HW : Hid (∀ w', By w' (m - min p m) (cutAt a c (min p m)) (l.drop (min p m)) → Calls Tryd.prog 32 #[.slice (cutAt a c (min p m)) (m - min p m) (c - min p m)] w' fun e w'' => e = .returned (.int .u32 (wordAt l (4 * k) : Nat)) ∧ w'' = w') := by
        show ∀ w', _
        intro w' hw'
        have := word_any (l.drop (min p m)) (m - min p m) (c - min p m) (cutAt a c (min p m)) w' (by omega) hw' (HL.out.drop _)
        rw [hp, drop_min l m k H.out.len] at this
        rw [hp]
        exact this
      have HBy : Hid (By wr (m - min p m) (cutAt a c (min p m)) (l.drop (min p m))) := by
        show By _ _ _ _
        exact by_cut (H.out.below hB2 (Nat.le_refl _)) (Nat.min_le_right _ _) Hc.out
      have hcut := fun w => run_cutl w a m c (min p m) (Nat.min_le_right _ _)
      have HR := hide1 hrow
      have HE := hide1 hbe
      have HC := hide1 c1
      clear hrow hbe hwr hB2 hp
      generalize wordAt l (4 * k) = x at HT HW
      by_cases hpm : p ≤ m
      · rw [Nat.min_eq_left hpm] at HW HBy hcut
        generalize cutAt a c p = ac at HW HBy hcut
        go_wp2_with (first | (go_at_call 32; refine (HW.out _ HBy.out).mono ?_; rintro e w' ⟨rfl, rfl⟩))
        go_roundw
        case rel =>
          refine ⟨k + 1, by omega, by go_num, ?_, ?_⟩
          · rw [set32 HR.out, HT.out]
          · exact HE.out.setCell (Nat.le_refl _) _
        case measure => simp [intOf]; omega
      · rw [Nat.min_eq_right (by omega), Nat.sub_self] at HW HBy hcut
        have hpm' : ¬ (p : Int) ≤ (m : Int) := by omega
        generalize cutAt a c m = ac at HW HBy hcut
        go_wp2_with (first | (go_at_call 32; refine (HW.out _ HBy.out).mono ?_; rintro e w' ⟨rfl, rfl⟩))
        go_roundw
        case rel =>
          refine ⟨k + 1, by omega, by go_num, ?_, ?_⟩
          · rw [set32 HR.out, HT.out]
          · exact HE.out.setCell (Nat.le_refl _) _
        case measure => simp [intOf]; omega
    · have : k = 16 := by omega
      subst this
      rw [told_all (zeros_length _)] at hrow
      have hrow' : wr.heap[w.heap.size + 1]? = some (row32 54 (wordsOf l)) := hrow
      have hr2 : wr.heap[w.heap.size]? = some (row32 54 (zeros 16)) := (hbe.block _ (by omega)).trans H1.out
      have HR := hide1 hrow'
      have HR2 := hide1 hr2
      have HE := hide1 hbe
      have hz : (u32s (wordsOf l)).toArray.size = 16 := by simp [u32s, wordsOf_length]
      have Hz := hide1 hz
      clear hrow hrow' hr2 hbe hz
      go_wp2_with (first | (refine wpList_load_row rfl 54 (.tmp 3) rfl (w.heap.size + 1) rfl 54 (u32s (wordsOf l)).toArray (0, 0) _ HR.out Tryd.underlying54 rfl (by rw [Hz.out]; kernel_rfl) ?_) | (refine wpList_store_own rfl 54 (.tmp 2) (.tmp 19) rfl w.heap.size rfl (u32s (wordsOf l)).toArray rfl 54 _ HR2.out (by rw [Hz.out]; kernel_rfl) (by rw [Hz.out]; simp [u32s, zeros]) (all_one (u32s_one _)) ?_))
      refine ret_row Tryd.results23 w.heap.size 54 (u32s (wordsOf l)).toArray rfl (setRow_heap _ _ _ _ _ _ HR2.out) Tryd.underlying54 (by rw [Hz.out]; kernel_rfl) rfl ⟨rfl, ?_⟩
      exact Below.setRow' (HB.out.trans (HE.out.mono (by omega))) (Nat.le_refl _) _

end Go.Proofs.YtjcfllidandeiaaDoor
