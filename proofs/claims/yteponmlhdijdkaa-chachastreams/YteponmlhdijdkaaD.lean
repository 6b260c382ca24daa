/- The document's Back. -/
import Derived.Test.YteponmlhdijdkaaC
import Derived.Deep.AppendLies
namespace Go.Proofs.Yteponmlhdijdkaa
open Go.RowKit
set_option maxRecDepth 100000
attribute [local go_sem] not_any

/- a row of words of the call's own, with some room behind it -/
def Mn (w : World) (g : Nat) (l : List Nat) : Prop := ∃ cur : Array Value, w.heap[g]? = some (.cells cur 22 (0, 0)) ∧ cur.toList.take l.length = u32s l
theorem mn_row {w : World} {g : Nat} {l : List Nat} (h : w.heap[g]? = some (row32 22 l)) : Mn w g l := ⟨_, h, by rw [← u32s_length l]; exact List.take_length⟩
theorem mn_get {l : List Nat} {cur : Array Value} (h2 : cur.toList.take l.length = u32s l) {j : Nat} (hj : j < l.length) : cur[j]? = some (.int .u32 (at0 l j : Nat)) := by
  have e : (cur.toList.take l.length)[j]? = (u32s l)[j]? := by rw [h2]
  rw [List.getElem?_take_of_lt hj] at e
  rw [← Array.getElem?_toList, e, u32s, List.getElem?_map, get_at0 hj]
  rfl
theorem Mn.cell {w : World} {g : Nat} {l : List Nat} (h : Mn w g l) {j : Nat} (hj : j < l.length) : w.cell? ⟨g, j, none⟩ = some (.int .u32 (at0 l j : Nat)) := by
  obtain ⟨cur, h1, h2⟩ := h
  rw [cell_of_row w g j cur 22 (0, 0) h1]
  exact mn_get h2 hj
theorem Mn.frozen {w : World} {g : Nat} {l : List Nat} (h : Mn w g l) (j : Nat) : w.frozen? ⟨g, j, none⟩ = false := by
  obtain ⟨cur, h1, h2⟩ := h
  exact frozen_of_row w g j cur 22 h1
theorem Mn.set {w : World} {g : Nat} {l : List Nat} (h : Mn w g l) (j x : Nat) : Mn (w.setCell ⟨g, j, none⟩ (.int .u32 (x : Int))) g (l.set j x) := by
  obtain ⟨cur, h1, h2⟩ := h
  refine ⟨_, heap_setCell_same w g j cur 22 _ h1, ?_⟩
  rw [List.length_set, Array.toList_setIfInBounds, List.take_set, h2]
  simp [u32s]
theorem Mn.to {w w' : World} {g : Nat} {l : List Nat} (h : Mn w g l) (hb : w'.heap[g]? = w.heap[g]?) : Mn w' g l := by
  obtain ⟨cur, h1, h2⟩ := h
  exact ⟨cur, hb.trans h1, h2⟩
theorem Mn.lt {w : World} {g : Nat} {l : List Nat} (h : Mn w g l) : g < w.heap.size := by
  obtain ⟨cur, h1, h2⟩ := h
  exact lt_heap h1
theorem mn_own {base : Nat} {w : World} {g n cap : Nat} {l : List Nat} (hn : l.length = n) (h : w.ownsRow base 22 1 (.slice (some ⟨g, 0, none⟩) n cap) n (u32s l)) : base ≤ g ∧ Mn w g l := by
  rcases h.2 with ⟨h1, _⟩ | ⟨g', cap', cur, h1, h2, h3, _, _, _, h4⟩
  · cases h1
  · cases h1
    refine ⟨h2, cur, h3, ?_⟩
    rw [hn, ← h4, Nat.mul_one]

theorem info_of {P : Program} {t : TypeId} {z : Value} {s b : Nat} (h : (P.info? t).map (fun i => (i.zero, i.size, i.bytes)) = some (some z, s, b)) : ∃ i, P.info? t = some i ∧ i.zero = some z ∧ i.size = s ∧ i.bytes = b := by
  cases hq : P.info? t with
  | none => simp [hq] at h
  | some i =>
    simp [hq] at h
    exact ⟨i, rfl, h.1, h.2.1, h.2.2⟩
theorem info22 : (Try.prog.info? 22).map (fun i => (i.zero, i.size, i.bytes)) = some (some (.int .u32 0), 1, 4) := by kernel_rfl
theorem own_empty (w : World) (base : Nat) (hb : base ≤ w.heap.size) : (w.alloc (.cells #[] 22)).ownsRow base 22 1 (.slice (some ⟨w.heap.size, 0, none⟩) 0 0) 0 (u32s []) :=
  ⟨rfl, .inr ⟨w.heap.size, 0, #[], rfl, hb, heap_alloc_new _ _, Nat.le_refl _, by unfold maxLen; omega, rfl, rfl⟩⟩

def BackPost (l : List Nat) (w : World) (e : Ending) (w' : World) : Prop := ∃ g cap, e = .returned (.slice (some ⟨g, 0, none⟩) 4 cap) ∧ Mn w' g (bs l 4) ∧ Below w.heap.size w w'

set_option maxHeartbeats 4000000 in
theorem back_any (l : List Nat) (ga c : Nat) (w : World) (hl : l.length = 4) (ht : Lt 4294967296 l) (hc : ∀ j, j < 4 → w.cell? ⟨ga, j, none⟩ = some (.int .u32 (at0 l j : Nat))) :
    Calls Try.prog 10 #[.slice (some ⟨ga, 0, none⟩) 4 c] w (BackPost l w) := by
  obtain ⟨i0, hi, hz0, hz1, hz2⟩ := info_of info22
  have HL := hide1 ht
  have Hl := hide1 hl
  have hga := lt_cell (hc 0 (by omega))
  have HC := hide1 hc
  have Hga := hide1 hga
  clear hl ht hc hga
  have hnews : Hid (∀ j u, (u32s l)[j]? = some u → ((w.alloc (row64 49 TURNS)).alloc (.cells #[] 22)).cell? ((⟨ga, 0, none⟩ : Addr).add j) = some u) := by
    show ∀ j u, _
    intro j u hu
    rw [Addr.add_lit, Nat.zero_add]
    have hj : j < 4 := by
      have := (List.getElem?_eq_some_iff.1 hu).1
      rw [u32s_length, Hl.out] at this
      exact this
    have e : (u32s l)[j]? = some (.int .u32 (at0 l j : Nat)) := by rw [u32s, List.getElem?_map, get_at0 (by rw [Hl.out]; exact hj)]; rfl
    rw [e] at hu
    cases hu
    have hb : Below w.heap.size w ((w.alloc (row64 49 TURNS)).alloc (.cells #[] 22)) := ((Below.refl _ _).alloc (Nat.le_refl _) _).alloc (by simp) _
    exact (hb.cell (p := ⟨ga, j, none⟩) Hga.out).trans (HC.out j hj)
  have hown : Hid (((w.alloc (row64 49 TURNS)).alloc (.cells #[] 22)).ownsRow (w.heap.size + 1) 22 1 (.slice (some ⟨w.heap.size + 1, 0, none⟩) 0 0) 0 (u32s [])) := by
    have := own_empty (w.alloc (row64 49 TURNS)) (w.heap.size + 1) (by simp)
    rw [show (w.alloc (row64 49 TURNS)).heap.size = w.heap.size + 1 by simp] at this
    exact this
  go_enter Try.func10, Try.ntmps10
  go_wp2_with (first
    | (at_builtin; go_must (refine wpList_append_lies _ rfl (.tmp 10) (.tmp 11) 25 rfl (w.heap.size + 1) 22 i0 (.int .u32 0) 1 4 Try.underlying25 hi hz0 hz1 hz2 rfl (by decide) (.slice (some ⟨w.heap.size + 1, 0, none⟩) 0 0) 0 (u32s []) rfl hown.out ⟨ga, 0, none⟩ 4 c (u32s l) rfl (by rw [u32s_length, Hl.out]) hnews.out (u32s_one _) (by omega) (by unfold maxLen; omega) (by omega) (by simp) _ rfl ?_; intro g6 cap6 w6 ro6 gr6 wh6 lt6)))
  obtain ⟨m1, m2⟩ := mn_own (l := l) Hl.out ro6
  have hb0 : Below w.heap.size w ((w.alloc (row64 49 TURNS)).alloc (.cells #[] 22)) := ((Below.refl _ _).alloc (Nat.le_refl _) _).alloc (by simp) _
  have hb1 : Below (w.heap.size + 1) (w.alloc (row64 49 TURNS)) w6 := ((Below.refl _ _).alloc (by simp) (.cells #[] 22)).grown gr6 (by simp) (fun k hk => by simp [Value.ownBlock] at hk; omega)
  have t6 : w6.heap[w.heap.size]? = some (row64 49 TURNS) := (hb1.block _ (by omega)).trans (heap_alloc_new _ _)
  have b6 : Below w.heap.size w w6 := ((Below.refl _ _).alloc (Nat.le_refl _) _).trans (hb1.mono (by omega))
  have T6 := hide1 t6
  have B6 := hide1 b6
  have M2 := hide1 m2
  have M1 := hide1 m1
  clear ro6 gr6 wh6 lt6 m1 m2 hb0 hb1 t6 b6 HC Hga
  go_wp2
  go_loopw [5] (fun i wr => ∃ k : Nat, k ≤ 4 ∧ i = .int .i64 (3 - (k : Int)) ∧ Mn wr g6 (bs l k) ∧ Below (w.heap.size + 1) w6 wr) (fun i _ => (intOf i + 1).toNat)
  case atStart => exact ⟨0, Nat.zero_le _, rfl, M2.out, Below.refl _ _⟩
  case round =>
    obtain ⟨k, hk, rfl, hrow, hbe⟩ := hrel
    clear M2
    by_cases hlt : k < 4
    · obtain ⟨m, hm⟩ : ∃ m, m = 3 - k := ⟨_, rfl⟩
      have em : 3 - (k : Int) = (m : Int) := by omega
      rw [em]
      have hm4 : m < 4 := by omega
      have hm4i : (m : Int) < 4 := by omega
      have HN : Shy (bs l (k + 1) = sb m (bs l k)) := ⟨by rw [bs, ← hm]⟩
      have Hm : Shy (m = 3 - k) := ⟨hm⟩
      have hln : (bs l k).length = 4 := by rw [bs_length, Hl.out]
      have HLk := hide1 (bs_lt HL.out k)
      generalize bs l k = l1 at *
      have ct : wr.cell? ⟨w.heap.size, m, none⟩ = some (.int .u64 (tn m : Nat)) := cell64 ((hbe.block _ (by omega)).trans T6.out) (j := m) hm4
      have HR := hide1 hrow
      have HE := hide1 hbe
      have Hln := hide1 hln
      clear hrow hbe hln hm em
      by_cases hpar : m % 2 = 1
      · have hb1 : ((m : Int) % 2 == 1) = true := by rw [beq_iff_eq]; omega
        have ex : px m = 2 := if_pos hpar
        have ey : py m = 3 := if_pos hpar
        have ez : pz m = 1 := if_pos hpar
        have cx := HR.out.cell (j := 2) (by rw [Hln.out]; omega)
        have cz := HR.out.cell (j := 1) (by rw [Hln.out]; omega)
        have bx := HLk.out.at (by omega) 2
        have by' := HLk.out.at (by omega) 3
        have bz := HLk.out.at (by omega) 1
        have fz := HR.out.frozen 1
        have hsq : sb m l1 = (l1.set 1 (rotl (32 - tn m) (at0 l1 1) ^^^ at0 l1 2)).set 2 ((at0 l1 2 + (4294967296 - at0 l1 3)) % 4294967296) := by rw [sb, ex, ey, ez]
        rw [hsq] at HN
        have HX0 : Hid (∀ v, at0 (l1.set 1 v) 2 = at0 l1 2) := by intro v; simp [at0]
        have HY0 : Hid (∀ v, at0 (l1.set 1 v) 3 = at0 l1 3) := by intro v; simp [at0]
        clear ex ey ez hsq hpar
        generalize at0 l1 2 = vx at *
        generalize at0 l1 3 = vy at *
        generalize at0 l1 1 = vz at *
        have hbt := tn_bounds hm4
        generalize tn m = t at *
        obtain ⟨t2, ht2⟩ : ∃ v, v = 32 - t := ⟨_, rfl⟩
        have e0 : IntKind.u64.wrap (32 - (t : Int)) = (t2 : Int) := by rw [IntKind.wrap_u64]; omega
        have e00 : 32 - (t : Int) = (t2 : Int) := by omega
        have e000 : IntKind.u64.wrap (t2 : Int) = (t2 : Int) := by rw [IntKind.wrap_u64]; omega
        have kl := fun w => hide1 (left_any vz t2 w (by omega) (by omega) bz)
        have br := rotl_lt (n := t2) bz
        rw [← ht2] at HN
        clear ht2
        generalize rotl t2 vz = r at *
        obtain ⟨vo, hvo⟩ : ∃ v, v = r ^^^ vx := ⟨_, rfl⟩
        have e2 : bits .xor .u32 (r : Int) (vx : Int) = (vo : Int) := by rw [hvo]; exact u32_xor_nat _ _ br bx
        rw [← hvo] at HN
        clear hvo
        have hbt' := hide1 hbt
        clear hbt
        go_upto_region 9 with (fail)
        refine region_f (F := [18]) (S := fun w' => w'.cell? ⟨g6, 1, none⟩ = some (.int .u32 (vz : Int)) ∧ w'.cell? ⟨g6, 2, none⟩ = some (.int .u32 (vx : Int)) ∧ w'.cell? ⟨w.heap.size, m, none⟩ = some (.int .u64 (t : Int))) (by kernel_rfl) ⟨cz, cx, ct⟩ (fun hS => ?_)
        refine take_p 0 20 (.slice (some ⟨g6, 0, none⟩) 4 cap6) rfl rfl (by kernel_rfl) (by kernel_rfl) (by kernel_rfl) (fun _ _ _ h => h) rfl (fun w => by go_simp) ?_
        try simp only [List.setIfInBounds_toArray, List.set_cons_zero, List.set_cons_succ]
        refine take_p 1 21 (.int .i64 1) rfl rfl (by kernel_rfl) (by kernel_rfl) (by kernel_rfl) (fun _ _ _ h => h) rfl (fun w => by go_simp) ?_
        try simp only [List.setIfInBounds_toArray, List.set_cons_zero, List.set_cons_succ]
        refine take_p 2 22 (.slice (some ⟨g6, 0, none⟩) 4 cap6) rfl rfl (by kernel_rfl) (by kernel_rfl) (by kernel_rfl) (fun _ _ _ h => h) rfl (fun w => by go_simp) ?_
        try simp only [List.setIfInBounds_toArray, List.set_cons_zero, List.set_cons_succ]
        refine take_p 3 23 (.int .i64 1) rfl rfl (by kernel_rfl) (by kernel_rfl) (by kernel_rfl) (fun _ _ _ h => h) rfl (fun w => by go_simp) ?_
        try simp only [List.setIfInBounds_toArray, List.set_cons_zero, List.set_cons_succ]
        refine take_p 4 24 (.pointer (some ⟨g6, 1, none⟩)) rfl rfl (by kernel_rfl) (by kernel_rfl) (by kernel_rfl) (fun _ _ _ h => h) rfl (fun w => by go_simp) ?_
        try simp only [List.setIfInBounds_toArray, List.set_cons_zero, List.set_cons_succ]
        refine take_f 5 25 (.int .u32 (vz : Int)) [11, 16, 17, 18] rfl rfl (by kernel_rfl) (by kernel_rfl) (by kernel_rfl) (by kernel_rfl) (by kernel_rfl) (by kernel_rfl) (fun _ _ _ h => h) rfl (fun w hSw => by have h1 := hSw.1; clear hSw; go_simp) hS ?_
        try simp only [List.setIfInBounds_toArray, List.set_cons_zero, List.set_cons_succ]
        refine take_p 6 26 (.slice (some ⟨w.heap.size, 0, none⟩) 4 4) rfl rfl (by kernel_rfl) (by kernel_rfl) (by kernel_rfl) (fun _ _ _ h => h) rfl (fun w => by go_simp) ?_
        try simp only [List.setIfInBounds_toArray, List.set_cons_zero, List.set_cons_succ]
        refine take_p 7 27 (.int .i64 (m : Int)) rfl rfl (by kernel_rfl) (by kernel_rfl) (by kernel_rfl) (fun _ _ _ h => h) rfl (fun w => by go_simp) ?_
        try simp only [List.setIfInBounds_toArray, List.set_cons_zero, List.set_cons_succ]
        refine take_p 8 28 (.pointer (some ⟨w.heap.size, m, none⟩)) rfl rfl (by kernel_rfl) (by kernel_rfl) (by kernel_rfl) (fun _ _ _ h => h) rfl (fun w => by go_simp) ?_
        try simp only [List.setIfInBounds_toArray, List.set_cons_zero, List.set_cons_succ]
        refine take_f 9 29 (.int .u64 (t : Int)) [10, 11, 16, 17, 18] rfl rfl (by kernel_rfl) (by kernel_rfl) (by kernel_rfl) (by kernel_rfl) (by kernel_rfl) (by kernel_rfl) (fun _ _ _ h => h) rfl (fun w hSw => by have h1 := hSw.2.2; clear hSw; go_simp) hS ?_
        try simp only [List.setIfInBounds_toArray, List.set_cons_zero, List.set_cons_succ]
        refine take_p 10 30 (.int .u64 (t2 : Int)) rfl rfl (by kernel_rfl) (by kernel_rfl) (by kernel_rfl) (fun _ _ _ h => h) rfl (fun w => by go_simp) ?_
        try simp only [List.setIfInBounds_toArray, List.set_cons_zero, List.set_cons_succ]
        refine take_p 12 32 (.slice (some ⟨g6, 0, none⟩) 4 cap6) rfl rfl (by kernel_rfl) (by kernel_rfl) (by kernel_rfl) (fun _ _ _ h => h) rfl (fun w => by go_simp) ?_
        try simp only [List.setIfInBounds_toArray, List.set_cons_zero, List.set_cons_succ]
        refine take_p 13 33 (.int .i64 2) rfl rfl (by kernel_rfl) (by kernel_rfl) (by kernel_rfl) (fun _ _ _ h => h) rfl (fun w => by go_simp) ?_
        try simp only [List.setIfInBounds_toArray, List.set_cons_zero, List.set_cons_succ]
        refine take_p 14 34 (.pointer (some ⟨g6, 2, none⟩)) rfl rfl (by kernel_rfl) (by kernel_rfl) (by kernel_rfl) (fun _ _ _ h => h) rfl (fun w => by go_simp) ?_
        try simp only [List.setIfInBounds_toArray, List.set_cons_zero, List.set_cons_succ]
        refine take_f 15 35 (.int .u32 (vx : Int)) [16, 17, 18] rfl rfl (by kernel_rfl) (by kernel_rfl) (by kernel_rfl) (by kernel_rfl) (by kernel_rfl) (by kernel_rfl) (fun _ _ _ h => h) rfl (fun w hSw => by have h1 := hSw.2.1; clear hSw; go_simp) hS ?_
        try simp only [List.setIfInBounds_toArray, List.set_cons_zero, List.set_cons_succ]
        refine ready_f 11 (o := { dst := some 31, op := Op.call { callee := Callee.value (Operand.func 20), args := #[Operand.tmp 25, Operand.tmp 30], argTypes := #[22, 49] }, type := 22, pos := "ref.go:42", after := #[{ on := 5, ground := Ground.data }, { on := 10, ground := Ground.data }], guard := none }) (by kernel_rfl) rfl (fun K hK => ?_)
        go_simp
        refine (kl _).out.mono ?_
        rintro e w' ⟨rfl, rfl⟩
        refine hK.out _ _ (fun _ h => h) ?_
        clear hK K
        try simp only [Act.put, List.setIfInBounds_toArray, List.set_cons_zero, List.set_cons_succ]
        refine take_p 16 36 (.int .u32 (vo : Int)) rfl rfl (by kernel_rfl) (by kernel_rfl) (by kernel_rfl) (fun _ _ _ h => h) rfl (fun w => by go_simp) ?_
        try simp only [List.setIfInBounds_toArray, List.set_cons_zero, List.set_cons_succ]
        refine take_p 17 37 (.pointer (some ⟨g6, 1, none⟩)) rfl rfl (by kernel_rfl) (by kernel_rfl) (by kernel_rfl) (fun _ _ _ h => h) rfl (fun w => by go_simp) ?_
        try simp only [List.setIfInBounds_toArray, List.set_cons_zero, List.set_cons_succ]
        refine ready_f 18 (o := { dst := none, op := Op.store 22 (Operand.tmp 37) (Operand.tmp 36), type := 0, pos := "ref.go:42", after := #[{ on := 17, ground := Ground.data }, { on := 16, ground := Ground.data }, { on := 11, ground := Ground.chain }, { on := 0, ground := Ground.phase }, { on := 1, ground := Ground.phase }, { on := 2, ground := Ground.phase }, { on := 3, ground := Ground.phase }, { on := 4, ground := Ground.phase }, { on := 5, ground := Ground.phase }, { on := 6, ground := Ground.phase }, { on := 7, ground := Ground.phase }, { on := 8, ground := Ground.phase }, { on := 9, ground := Ground.phase }, { on := 10, ground := Ground.phase }, { on := 11, ground := Ground.phase }, { on := 12, ground := Ground.phase }, { on := 13, ground := Ground.phase }, { on := 14, ground := Ground.phase }, { on := 15, ground := Ground.phase }, { on := 16, ground := Ground.phase }], guard := none }) (by kernel_rfl) rfl (fun K hK => ?_)
        go_simp
        refine hK.out _ _ (fun h => absurd (by decide) h) ?_
        clear hK K
        refine done_f (by kernel_rfl) ?_ _
        generalize hX : World.drew (World.setCell _ _ _) = X
        have x1 : Mn X g6 (l1.set 1 vo) := by rw [← hX]; exact (HR.out.set 1 vo).to rfl
        have x2 : Below (w.heap.size + 1) w6 X := by rw [← hX]; exact (HE.out.setCell (p := ⟨g6, 1, none⟩) M1.out _).drew
        have cx2 := x1.cell (j := 2) (by rw [List.length_set, Hln.out]; omega)
        have cy2 := x1.cell (j := 3) (by rw [List.length_set, Hln.out]; omega)
        rw [HX0.out] at cx2
        rw [HY0.out] at cy2
        have fx := x1.frozen 2
        have X1 := hide1 x1
        have X2 := hide1 x2
        clear x1 x2 hX cx cz ct hS kl HX0 HY0
        obtain ⟨vs, hvs⟩ : ∃ v, v = (vx + (4294967296 - vy)) % 4294967296 := ⟨_, rfl⟩
        have e3 : IntKind.u32.wrap ((vx : Int) - (vy : Int)) = (vs : Int) := by rw [hvs]; exact wrap32_sub _ _ by'
        rw [← hvs] at HN
        clear hvs
        go_wp2
        go_region
        go_wp2
        go_roundw
        case rel =>
          refine ⟨k + 1, by omega, by have := Hm.out; congr 1; omega, ?_, ?_⟩
          · rw [HN.out]
            exact (X1.out.set 2 vs).to rfl
          · exact (X2.out.setCell (p := ⟨g6, 2, none⟩) M1.out _).drew
        case measure => simp [intOf]
      · have hb1 : ((m : Int) % 2 == 1) = false := by rw [beq_eq_false_iff_ne]; omega
        have ex : px m = 0 := if_neg hpar
        have ey : py m = 1 := if_neg hpar
        have ez : pz m = 3 := if_neg hpar
        have cx := HR.out.cell (j := 0) (by rw [Hln.out]; omega)
        have cz := HR.out.cell (j := 3) (by rw [Hln.out]; omega)
        have bx := HLk.out.at (by omega) 0
        have by' := HLk.out.at (by omega) 1
        have bz := HLk.out.at (by omega) 3
        have fz := HR.out.frozen 3
        have hsq : sb m l1 = (l1.set 3 (rotl (32 - tn m) (at0 l1 3) ^^^ at0 l1 0)).set 0 ((at0 l1 0 + (4294967296 - at0 l1 1)) % 4294967296) := by rw [sb, ex, ey, ez]
        rw [hsq] at HN
        have HX0 : Hid (∀ v, at0 (l1.set 3 v) 0 = at0 l1 0) := by intro v; simp [at0]
        have HY0 : Hid (∀ v, at0 (l1.set 3 v) 1 = at0 l1 1) := by intro v; simp [at0]
        clear ex ey ez hsq hpar
        generalize at0 l1 0 = vx at *
        generalize at0 l1 1 = vy at *
        generalize at0 l1 3 = vz at *
        have hbt := tn_bounds hm4
        generalize tn m = t at *
        obtain ⟨t2, ht2⟩ : ∃ v, v = 32 - t := ⟨_, rfl⟩
        have e0 : IntKind.u64.wrap (32 - (t : Int)) = (t2 : Int) := by rw [IntKind.wrap_u64]; omega
        have e00 : 32 - (t : Int) = (t2 : Int) := by omega
        have e000 : IntKind.u64.wrap (t2 : Int) = (t2 : Int) := by rw [IntKind.wrap_u64]; omega
        have kl := fun w => hide1 (left_any vz t2 w (by omega) (by omega) bz)
        have br := rotl_lt (n := t2) bz
        rw [← ht2] at HN
        clear ht2
        generalize rotl t2 vz = r at *
        obtain ⟨vo, hvo⟩ : ∃ v, v = r ^^^ vx := ⟨_, rfl⟩
        have e2 : bits .xor .u32 (r : Int) (vx : Int) = (vo : Int) := by rw [hvo]; exact u32_xor_nat _ _ br bx
        rw [← hvo] at HN
        clear hvo
        have hbt' := hide1 hbt
        clear hbt
        go_upto_region 9 with (fail)
        refine region_f (F := [18]) (S := fun w' => w'.cell? ⟨g6, 3, none⟩ = some (.int .u32 (vz : Int)) ∧ w'.cell? ⟨g6, 0, none⟩ = some (.int .u32 (vx : Int)) ∧ w'.cell? ⟨w.heap.size, m, none⟩ = some (.int .u64 (t : Int))) (by kernel_rfl) ⟨cz, cx, ct⟩ (fun hS => ?_)
        refine take_p 0 20 (.slice (some ⟨g6, 0, none⟩) 4 cap6) rfl rfl (by kernel_rfl) (by kernel_rfl) (by kernel_rfl) (fun _ _ _ h => h) rfl (fun w => by go_simp) ?_
        try simp only [List.setIfInBounds_toArray, List.set_cons_zero, List.set_cons_succ]
        refine take_p 1 21 (.int .i64 3) rfl rfl (by kernel_rfl) (by kernel_rfl) (by kernel_rfl) (fun _ _ _ h => h) rfl (fun w => by go_simp) ?_
        try simp only [List.setIfInBounds_toArray, List.set_cons_zero, List.set_cons_succ]
        refine take_p 2 22 (.slice (some ⟨g6, 0, none⟩) 4 cap6) rfl rfl (by kernel_rfl) (by kernel_rfl) (by kernel_rfl) (fun _ _ _ h => h) rfl (fun w => by go_simp) ?_
        try simp only [List.setIfInBounds_toArray, List.set_cons_zero, List.set_cons_succ]
        refine take_p 3 23 (.int .i64 3) rfl rfl (by kernel_rfl) (by kernel_rfl) (by kernel_rfl) (fun _ _ _ h => h) rfl (fun w => by go_simp) ?_
        try simp only [List.setIfInBounds_toArray, List.set_cons_zero, List.set_cons_succ]
        refine take_p 4 24 (.pointer (some ⟨g6, 3, none⟩)) rfl rfl (by kernel_rfl) (by kernel_rfl) (by kernel_rfl) (fun _ _ _ h => h) rfl (fun w => by go_simp) ?_
        try simp only [List.setIfInBounds_toArray, List.set_cons_zero, List.set_cons_succ]
        refine take_f 5 25 (.int .u32 (vz : Int)) [11, 16, 17, 18] rfl rfl (by kernel_rfl) (by kernel_rfl) (by kernel_rfl) (by kernel_rfl) (by kernel_rfl) (by kernel_rfl) (fun _ _ _ h => h) rfl (fun w hSw => by have h1 := hSw.1; clear hSw; go_simp) hS ?_
        try simp only [List.setIfInBounds_toArray, List.set_cons_zero, List.set_cons_succ]
        refine take_p 6 26 (.slice (some ⟨w.heap.size, 0, none⟩) 4 4) rfl rfl (by kernel_rfl) (by kernel_rfl) (by kernel_rfl) (fun _ _ _ h => h) rfl (fun w => by go_simp) ?_
        try simp only [List.setIfInBounds_toArray, List.set_cons_zero, List.set_cons_succ]
        refine take_p 7 27 (.int .i64 (m : Int)) rfl rfl (by kernel_rfl) (by kernel_rfl) (by kernel_rfl) (fun _ _ _ h => h) rfl (fun w => by go_simp) ?_
        try simp only [List.setIfInBounds_toArray, List.set_cons_zero, List.set_cons_succ]
        refine take_p 8 28 (.pointer (some ⟨w.heap.size, m, none⟩)) rfl rfl (by kernel_rfl) (by kernel_rfl) (by kernel_rfl) (fun _ _ _ h => h) rfl (fun w => by go_simp) ?_
        try simp only [List.setIfInBounds_toArray, List.set_cons_zero, List.set_cons_succ]
        refine take_f 9 29 (.int .u64 (t : Int)) [10, 11, 16, 17, 18] rfl rfl (by kernel_rfl) (by kernel_rfl) (by kernel_rfl) (by kernel_rfl) (by kernel_rfl) (by kernel_rfl) (fun _ _ _ h => h) rfl (fun w hSw => by have h1 := hSw.2.2; clear hSw; go_simp) hS ?_
        try simp only [List.setIfInBounds_toArray, List.set_cons_zero, List.set_cons_succ]
        refine take_p 10 30 (.int .u64 (t2 : Int)) rfl rfl (by kernel_rfl) (by kernel_rfl) (by kernel_rfl) (fun _ _ _ h => h) rfl (fun w => by go_simp) ?_
        try simp only [List.setIfInBounds_toArray, List.set_cons_zero, List.set_cons_succ]
        refine take_p 12 32 (.slice (some ⟨g6, 0, none⟩) 4 cap6) rfl rfl (by kernel_rfl) (by kernel_rfl) (by kernel_rfl) (fun _ _ _ h => h) rfl (fun w => by go_simp) ?_
        try simp only [List.setIfInBounds_toArray, List.set_cons_zero, List.set_cons_succ]
        refine take_p 13 33 (.int .i64 0) rfl rfl (by kernel_rfl) (by kernel_rfl) (by kernel_rfl) (fun _ _ _ h => h) rfl (fun w => by go_simp) ?_
        try simp only [List.setIfInBounds_toArray, List.set_cons_zero, List.set_cons_succ]
        refine take_p 14 34 (.pointer (some ⟨g6, 0, none⟩)) rfl rfl (by kernel_rfl) (by kernel_rfl) (by kernel_rfl) (fun _ _ _ h => h) rfl (fun w => by go_simp) ?_
        try simp only [List.setIfInBounds_toArray, List.set_cons_zero, List.set_cons_succ]
        refine take_f 15 35 (.int .u32 (vx : Int)) [16, 17, 18] rfl rfl (by kernel_rfl) (by kernel_rfl) (by kernel_rfl) (by kernel_rfl) (by kernel_rfl) (by kernel_rfl) (fun _ _ _ h => h) rfl (fun w hSw => by have h1 := hSw.2.1; clear hSw; go_simp) hS ?_
        try simp only [List.setIfInBounds_toArray, List.set_cons_zero, List.set_cons_succ]
        refine ready_f 11 (o := { dst := some 31, op := Op.call { callee := Callee.value (Operand.func 20), args := #[Operand.tmp 25, Operand.tmp 30], argTypes := #[22, 49] }, type := 22, pos := "ref.go:42", after := #[{ on := 5, ground := Ground.data }, { on := 10, ground := Ground.data }], guard := none }) (by kernel_rfl) rfl (fun K hK => ?_)
        go_simp
        refine (kl _).out.mono ?_
        rintro e w' ⟨rfl, rfl⟩
        refine hK.out _ _ (fun _ h => h) ?_
        clear hK K
        try simp only [Act.put, List.setIfInBounds_toArray, List.set_cons_zero, List.set_cons_succ]
        refine take_p 16 36 (.int .u32 (vo : Int)) rfl rfl (by kernel_rfl) (by kernel_rfl) (by kernel_rfl) (fun _ _ _ h => h) rfl (fun w => by go_simp) ?_
        try simp only [List.setIfInBounds_toArray, List.set_cons_zero, List.set_cons_succ]
        refine take_p 17 37 (.pointer (some ⟨g6, 3, none⟩)) rfl rfl (by kernel_rfl) (by kernel_rfl) (by kernel_rfl) (fun _ _ _ h => h) rfl (fun w => by go_simp) ?_
        try simp only [List.setIfInBounds_toArray, List.set_cons_zero, List.set_cons_succ]
        refine ready_f 18 (o := { dst := none, op := Op.store 22 (Operand.tmp 37) (Operand.tmp 36), type := 0, pos := "ref.go:42", after := #[{ on := 17, ground := Ground.data }, { on := 16, ground := Ground.data }, { on := 11, ground := Ground.chain }, { on := 0, ground := Ground.phase }, { on := 1, ground := Ground.phase }, { on := 2, ground := Ground.phase }, { on := 3, ground := Ground.phase }, { on := 4, ground := Ground.phase }, { on := 5, ground := Ground.phase }, { on := 6, ground := Ground.phase }, { on := 7, ground := Ground.phase }, { on := 8, ground := Ground.phase }, { on := 9, ground := Ground.phase }, { on := 10, ground := Ground.phase }, { on := 11, ground := Ground.phase }, { on := 12, ground := Ground.phase }, { on := 13, ground := Ground.phase }, { on := 14, ground := Ground.phase }, { on := 15, ground := Ground.phase }, { on := 16, ground := Ground.phase }], guard := none }) (by kernel_rfl) rfl (fun K hK => ?_)
        go_simp
        refine hK.out _ _ (fun h => absurd (by decide) h) ?_
        clear hK K
        refine done_f (by kernel_rfl) ?_ _
        generalize hX : World.drew (World.setCell _ _ _) = X
        have x1 : Mn X g6 (l1.set 3 vo) := by rw [← hX]; exact (HR.out.set 3 vo).to rfl
        have x2 : Below (w.heap.size + 1) w6 X := by rw [← hX]; exact (HE.out.setCell (p := ⟨g6, 3, none⟩) M1.out _).drew
        have cx2 := x1.cell (j := 0) (by rw [List.length_set, Hln.out]; omega)
        have cy2 := x1.cell (j := 1) (by rw [List.length_set, Hln.out]; omega)
        rw [HX0.out] at cx2
        rw [HY0.out] at cy2
        have fx := x1.frozen 0
        have X1 := hide1 x1
        have X2 := hide1 x2
        clear x1 x2 hX cx cz ct hS kl HX0 HY0
        obtain ⟨vs, hvs⟩ : ∃ v, v = (vx + (4294967296 - vy)) % 4294967296 := ⟨_, rfl⟩
        have e3 : IntKind.u32.wrap ((vx : Int) - (vy : Int)) = (vs : Int) := by rw [hvs]; exact wrap32_sub _ _ by'
        rw [← hvs] at HN
        clear hvs
        go_wp2
        go_region
        go_wp2
        go_roundw
        case rel =>
          refine ⟨k + 1, by omega, by have := Hm.out; congr 1; omega, ?_, ?_⟩
          · rw [HN.out]
            exact (X1.out.set 0 vs).to rfl
          · exact (X2.out.setCell (p := ⟨g6, 0, none⟩) M1.out _).drew
        case measure => simp [intOf]
    · have : k = 4 := by omega
      subst this
      have HR := hide1 hrow
      have HE := hide1 hbe
      clear hrow hbe
      have e4 : 3 - ((4 : Nat) : Int) = -1 := rfl
      rw [e4]
      go_wp2
      go_ret
      exact ⟨g6, cap6, rfl, HR.out, B6.out.trans (HE.out.mono (by omega))⟩

end Go.Proofs.Yteponmlhdijdkaa
