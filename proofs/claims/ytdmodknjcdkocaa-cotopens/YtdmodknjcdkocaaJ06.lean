/- The document's Quarter. -/
import Derived.Test.YtdmodknjcdkocaaJ02
namespace Go.Proofs.Ytdmodknjcdkocaa.Pg
open Go.RowKit
set_option maxRecDepth 100000
attribute [local go_sem] not_any

def TURNS : List Nat := [16, 12, 8, 7]
def u64s (l : List Nat) : List Value := l.map (fun n : Nat => Value.int .u64 (n : Int))
def row64 (t : TypeId) (l : List Nat) : Obj := .cells (u64s l).toArray t (0, 0)
theorem cell64 {w : World} {g j : Nat} {t : TypeId} {l : List Nat} (h : w.heap[g]? = some (row64 t l)) (hj : j < l.length) : w.cell? ⟨g, j, none⟩ = some (.int .u64 (at0 l j : Nat)) := by
  rw [cell_of_row w g j _ t (0, 0) h]
  simp [u64s, get_at0 hj]
theorem tn_bounds {i : Nat} (h : i < 4) : 1 ≤ tn i ∧ tn i ≤ 31 := by
  match i, h with
  | 0, _ => decide
  | 1, _ => decide
  | 2, _ => decide
  | 3, _ => decide

set_option maxHeartbeats 2000000 in
theorem rquarter_any (a b c d : Nat) (w : World) (ha : a < 4294967296) (hb : b < 4294967296) (hc : c < 4294967296) (hd : d < 4294967296) :
    Calls Try.prog 62 #[.int .u32 (a : Int), .int .u32 (b : Int), .int .u32 (c : Int), .int .u32 (d : Int)] w fun e w' =>
      e = .returned (.slice (some ⟨w.heap.size + 1, 0, none⟩) 4 4) ∧ w'.heap[w.heap.size + 1]? = some (row32 72 (qP a b c d)) ∧ Below w.heap.size w w' := by
  have HL := hide1 (lt4 ha hb hc hd)
  clear ha hb hc hd
  go_enter Try.func62, Try.ntmps62
  go_upto_block 0 with (fail)
  generalize hW : World.alloc (World.alloc w _) _ = W
  have h1 : W.heap[w.heap.size]? = some (row64 69 TURNS) := by rw [← hW]; exact heap_alloc2_old _ _ _
  have h2 : W.heap[w.heap.size + 1]? = some (row32 72 (qs [a, b, c, d] 0)) := by rw [← hW]; exact heap_alloc2_new _ _ _
  have h3 : Below w.heap.size w W := by rw [← hW]; exact ((Below.refl _ _).alloc (Nat.le_refl _) _).alloc (by simp) _
  have H1 := hide1 h1
  have H2 := hide1 h2
  have H3 := hide1 h3
  clear hW h1 h2 h3
  go_wp2
  go_loopw [11] (fun i wr => ∃ k : Nat, k ≤ 4 ∧ i = .int .i64 k ∧ wr.heap[w.heap.size + 1]? = some (row32 72 (qs [a, b, c, d] k)) ∧ Below (w.heap.size + 1) W wr) (fun i _ => 4 - (intOf i).toNat)
  case atStart => exact ⟨0, Nat.zero_le _, rfl, H2.out, Below.refl _ _⟩
  case round =>
    obtain ⟨k, hk, rfl, hrow, hbe⟩ := hrel
    clear H2
    by_cases hlt : k < 4
    · have HN : Shy (qs [a, b, c, d] (k + 1) = sq k (qs [a, b, c, d] k)) := ⟨rfl⟩
      have hln : (qs [a, b, c, d] k).length = 4 := qs_length _ k
      have HLk := hide1 (qs_lt HL.out k)
      generalize qs [a, b, c, d] k = l at *
      have ct : wr.cell? ⟨w.heap.size, k, none⟩ = some (.int .u64 (tn k : Nat)) := cell64 ((hbe.block _ (by omega)).trans H1.out) (j := k) hlt
      have HR := hide1 hrow
      have HE := hide1 hbe
      have Hln := hide1 hln
      clear hrow hbe hln
      by_cases hpar : k % 2 = 1
      · have hb1 : ((k : Int) % 2 == 1) = true := by rw [beq_iff_eq]; omega
        have ex : px k = 2 := if_pos hpar
        have ey : py k = 3 := if_pos hpar
        have ez : pz k = 1 := if_pos hpar
        have cx := cell32 HR.out (j := 2) (by rw [Hln.out]; omega)
        have cy := cell32 HR.out (j := 3) (by rw [Hln.out]; omega)
        have bx := HLk.out.at (by omega) 2
        have bz := HLk.out.at (by omega) 1
        have fx := frozen_of_row wr (w.heap.size + 1) 2 _ _ HR.out
        have hsq : sq k l = (l.set 2 ((at0 l 2 + at0 l 3) % 4294967296)).set 1 (rotl (tn k) (at0 l 1 ^^^ ((at0 l 2 + at0 l 3) % 4294967296))) := by rw [sq, ex, ey, ez]
        rw [hsq] at HN
        have ez0 : at0 (l.set 2 ((at0 l 2 + at0 l 3) % 4294967296)) 1 = at0 l 1 := by simp [at0]
        have ex0 : at0 (l.set 2 ((at0 l 2 + at0 l 3) % 4294967296)) 2 = (at0 l 2 + at0 l 3) % 4294967296 := by simp [at0, Hln.out]
        have HZ0 := hide1 ez0
        have HX0 := hide1 ex0
        clear ex ey ez hsq ez0 ex0 hpar
        generalize at0 l 2 = vx at *
        generalize at0 l 3 = vy at *
        generalize at0 l 1 = vz at *
        obtain ⟨vs, hvs⟩ : ∃ v, v = (vx + vy) % 4294967296 := ⟨_, rfl⟩
        have e1 : IntKind.u32.wrap ((vx : Int) + (vy : Int)) = (vs : Int) := by rw [hvs]; exact wrap32_add _ _
        have bs' : vs < 4294967296 := by omega
        rw [← hvs] at HN HZ0 HX0
        clear hvs
        go_upto_region 9 with (fail)
        go_region
        generalize hX : World.drew (World.setCell _ _ _) = X
        have x1 : X.heap[w.heap.size + 1]? = some (row32 72 (l.set 2 vs)) := by rw [← hX]; exact set32 HR.out
        have x2 : Below (w.heap.size + 1) W X := by rw [← hX]; exact (HE.out.setCell (p := ⟨w.heap.size + 1, 2, none⟩) (Nat.le_refl _) _).drew
        have x3 : X.cell? ⟨w.heap.size, k, none⟩ = some (.int .u64 (tn k : Nat)) := cell64 ((x2.block _ (by omega)).trans H1.out) (j := k) hlt
        have cx2 := cell32 x1 (j := 2) (by rw [List.length_set, Hln.out]; omega)
        have cz2 := cell32 x1 (j := 1) (by rw [List.length_set, Hln.out]; omega)
        rw [HX0.out] at cx2
        rw [HZ0.out] at cz2
        have fz := frozen_of_row X (w.heap.size + 1) 1 _ _ x1
        have X1 := hide1 x1
        have X2 := hide1 x2
        clear x1 x2 hX cx cy fx ct
        obtain ⟨vo, hvo⟩ : ∃ v, v = vz ^^^ vs := ⟨_, rfl⟩
        have e2 : bits .xor .u32 (vz : Int) (vs : Int) = (vo : Int) := by rw [hvo]; exact u32_xor_nat _ _ bz bs'
        have bo : vo < 4294967296 := by rw [hvo]; exact xor_lt bz bs'
        rw [← hvo] at HN
        have kl := fun w => hide1 (left_any vo (tn k) w (tn_bounds hlt).1 (tn_bounds hlt).2 bo)
        clear hvo HZ0 HX0
        generalize tn k = t at *
        generalize rotl t vo = r at *
        go_wp2_with (fail)
        refine region_f (F := [17]) (S := fun w' => w'.cell? ⟨w.heap.size + 1, 1, none⟩ = some (.int .u32 (vz : Int)) ∧ w'.cell? ⟨w.heap.size + 1, 2, none⟩ = some (.int .u32 (vs : Int)) ∧ w'.cell? ⟨w.heap.size, k, none⟩ = some (.int .u64 (t : Int))) (by kernel_rfl) ⟨cz2, cx2, x3⟩ (fun hS => ?_)
        refine take_p 0 40 (.slice (some ⟨w.heap.size + 1, 0, none⟩) 4 4) rfl rfl (by kernel_rfl) (by kernel_rfl) (by kernel_rfl) (fun _ _ _ h => h) rfl (fun w => by go_simp) ?_
        try simp only [List.setIfInBounds_toArray, List.set_cons_zero, List.set_cons_succ]
        refine take_p 1 41 (.int .i64 1) rfl rfl (by kernel_rfl) (by kernel_rfl) (by kernel_rfl) (fun _ _ _ h => h) rfl (fun w => by go_simp) ?_
        try simp only [List.setIfInBounds_toArray, List.set_cons_zero, List.set_cons_succ]
        refine take_p 2 42 (.slice (some ⟨w.heap.size + 1, 0, none⟩) 4 4) rfl rfl (by kernel_rfl) (by kernel_rfl) (by kernel_rfl) (fun _ _ _ h => h) rfl (fun w => by go_simp) ?_
        try simp only [List.setIfInBounds_toArray, List.set_cons_zero, List.set_cons_succ]
        refine take_p 3 43 (.int .i64 1) rfl rfl (by kernel_rfl) (by kernel_rfl) (by kernel_rfl) (fun _ _ _ h => h) rfl (fun w => by go_simp) ?_
        try simp only [List.setIfInBounds_toArray, List.set_cons_zero, List.set_cons_succ]
        refine take_p 4 44 (.pointer (some ⟨w.heap.size + 1, 1, none⟩)) rfl rfl (by kernel_rfl) (by kernel_rfl) (by kernel_rfl) (fun _ _ _ h => h) rfl (fun w => by go_simp) ?_
        try simp only [List.setIfInBounds_toArray, List.set_cons_zero, List.set_cons_succ]
        refine take_f 5 45 (.int .u32 (vz : Int)) [10, 15, 16, 17] rfl rfl (by kernel_rfl) (by kernel_rfl) (by kernel_rfl) (by kernel_rfl) (by kernel_rfl) (by kernel_rfl) (fun _ _ _ h => h) rfl (fun w hSw => by have h1 := hSw.1; clear hSw; go_simp) hS ?_
        try simp only [List.setIfInBounds_toArray, List.set_cons_zero, List.set_cons_succ]
        refine take_p 6 46 (.slice (some ⟨w.heap.size + 1, 0, none⟩) 4 4) rfl rfl (by kernel_rfl) (by kernel_rfl) (by kernel_rfl) (fun _ _ _ h => h) rfl (fun w => by go_simp) ?_
        try simp only [List.setIfInBounds_toArray, List.set_cons_zero, List.set_cons_succ]
        refine take_p 7 47 (.int .i64 2) rfl rfl (by kernel_rfl) (by kernel_rfl) (by kernel_rfl) (fun _ _ _ h => h) rfl (fun w => by go_simp) ?_
        try simp only [List.setIfInBounds_toArray, List.set_cons_zero, List.set_cons_succ]
        refine take_p 8 48 (.pointer (some ⟨w.heap.size + 1, 2, none⟩)) rfl rfl (by kernel_rfl) (by kernel_rfl) (by kernel_rfl) (fun _ _ _ h => h) rfl (fun w => by go_simp) ?_
        try simp only [List.setIfInBounds_toArray, List.set_cons_zero, List.set_cons_succ]
        refine take_f 9 49 (.int .u32 (vs : Int)) [10, 15, 16, 17] rfl rfl (by kernel_rfl) (by kernel_rfl) (by kernel_rfl) (by kernel_rfl) (by kernel_rfl) (by kernel_rfl) (fun _ _ _ h => h) rfl (fun w hSw => by have h1 := hSw.2.1; clear hSw; go_simp) hS ?_
        try simp only [List.setIfInBounds_toArray, List.set_cons_zero, List.set_cons_succ]
        refine take_p 10 50 (.int .u32 (vo : Int)) rfl rfl (by kernel_rfl) (by kernel_rfl) (by kernel_rfl) (fun _ _ _ h => h) rfl (fun w => by go_simp) ?_
        try simp only [List.setIfInBounds_toArray, List.set_cons_zero, List.set_cons_succ]
        refine take_p 11 51 (.slice (some ⟨w.heap.size, 0, none⟩) 4 4) rfl rfl (by kernel_rfl) (by kernel_rfl) (by kernel_rfl) (fun _ _ _ h => h) rfl (fun w => by go_simp) ?_
        try simp only [List.setIfInBounds_toArray, List.set_cons_zero, List.set_cons_succ]
        refine take_p 12 52 (.int .i64 (k : Int)) rfl rfl (by kernel_rfl) (by kernel_rfl) (by kernel_rfl) (fun _ _ _ h => h) rfl (fun w => by go_simp) ?_
        try simp only [List.setIfInBounds_toArray, List.set_cons_zero, List.set_cons_succ]
        refine take_p 13 53 (.pointer (some ⟨w.heap.size, k, none⟩)) rfl rfl (by kernel_rfl) (by kernel_rfl) (by kernel_rfl) (fun _ _ _ h => h) rfl (fun w => by go_simp) ?_
        try simp only [List.setIfInBounds_toArray, List.set_cons_zero, List.set_cons_succ]
        refine take_f 14 54 (.int .u64 (t : Int)) [15, 16, 17] rfl rfl (by kernel_rfl) (by kernel_rfl) (by kernel_rfl) (by kernel_rfl) (by kernel_rfl) (by kernel_rfl) (fun _ _ _ h => h) rfl (fun w hSw => by have h1 := hSw.2.2; clear hSw; go_simp) hS ?_
        try simp only [List.setIfInBounds_toArray, List.set_cons_zero, List.set_cons_succ]
        refine ready_f 15 (o := { dst := some 55, op := Op.call { callee := Callee.value (Operand.func 66), args := #[Operand.tmp 50, Operand.tmp 54], argTypes := #[72, 69] }, type := 72, pos := "ref.go:28", after := #[{ on := 10, ground := Ground.data }, { on := 14, ground := Ground.data }], guard := none }) (by kernel_rfl) rfl (fun K hK => ?_)
        go_simp
        refine (kl _).out.mono ?_
        rintro e w' ⟨rfl, rfl⟩
        refine hK.out _ _ (fun _ h => h) ?_
        clear hK K
        try simp only [Act.put, List.setIfInBounds_toArray, List.set_cons_zero, List.set_cons_succ]
        refine take_p 16 56 (.pointer (some ⟨w.heap.size + 1, 1, none⟩)) rfl rfl (by kernel_rfl) (by kernel_rfl) (by kernel_rfl) (fun _ _ _ h => h) rfl (fun w => by go_simp) ?_
        try simp only [List.setIfInBounds_toArray, List.set_cons_zero, List.set_cons_succ]
        refine ready_f 17 (o := { dst := none, op := Op.store 72 (Operand.tmp 56) (Operand.tmp 55), type := 0, pos := "ref.go:28", after := #[{ on := 16, ground := Ground.data }, { on := 15, ground := Ground.data }, { on := 15, ground := Ground.chain }, { on := 0, ground := Ground.phase }, { on := 1, ground := Ground.phase }, { on := 2, ground := Ground.phase }, { on := 3, ground := Ground.phase }, { on := 4, ground := Ground.phase }, { on := 5, ground := Ground.phase }, { on := 6, ground := Ground.phase }, { on := 7, ground := Ground.phase }, { on := 8, ground := Ground.phase }, { on := 9, ground := Ground.phase }, { on := 10, ground := Ground.phase }, { on := 11, ground := Ground.phase }, { on := 12, ground := Ground.phase }, { on := 13, ground := Ground.phase }, { on := 14, ground := Ground.phase }, { on := 15, ground := Ground.phase }], guard := none }) (by kernel_rfl) rfl (fun K hK => ?_)
        go_simp
        refine hK.out _ _ (fun h => absurd (by decide) h) ?_
        clear hK K
        refine done_f (by kernel_rfl) ?_ _
        go_wp2
        go_roundw
        case rel =>
          refine ⟨k + 1, by omega, by go_num, ?_, ?_⟩
          · show (X.setCell _ _).heap[_]? = _
            rw [set32 X1.out, HN.out]
          · exact (X2.out.setCell (p := ⟨w.heap.size + 1, 1, none⟩) (Nat.le_refl _) _).drew
        case measure => simp [intOf]; omega
      · have hb1 : ((k : Int) % 2 == 1) = false := by rw [beq_eq_false_iff_ne]; omega
        have ex : px k = 0 := if_neg hpar
        have ey : py k = 1 := if_neg hpar
        have ez : pz k = 3 := if_neg hpar
        have cx := cell32 HR.out (j := 0) (by rw [Hln.out]; omega)
        have cy := cell32 HR.out (j := 1) (by rw [Hln.out]; omega)
        have bx := HLk.out.at (by omega) 0
        have bz := HLk.out.at (by omega) 3
        have fx := frozen_of_row wr (w.heap.size + 1) 0 _ _ HR.out
        have hsq : sq k l = (l.set 0 ((at0 l 0 + at0 l 1) % 4294967296)).set 3 (rotl (tn k) (at0 l 3 ^^^ ((at0 l 0 + at0 l 1) % 4294967296))) := by rw [sq, ex, ey, ez]
        rw [hsq] at HN
        have ez0 : at0 (l.set 0 ((at0 l 0 + at0 l 1) % 4294967296)) 3 = at0 l 3 := by simp [at0]
        have ex0 : at0 (l.set 0 ((at0 l 0 + at0 l 1) % 4294967296)) 0 = (at0 l 0 + at0 l 1) % 4294967296 := by simp [at0, Hln.out]
        have HZ0 := hide1 ez0
        have HX0 := hide1 ex0
        clear ex ey ez hsq ez0 ex0 hpar
        generalize at0 l 0 = vx at *
        generalize at0 l 1 = vy at *
        generalize at0 l 3 = vz at *
        obtain ⟨vs, hvs⟩ : ∃ v, v = (vx + vy) % 4294967296 := ⟨_, rfl⟩
        have e1 : IntKind.u32.wrap ((vx : Int) + (vy : Int)) = (vs : Int) := by rw [hvs]; exact wrap32_add _ _
        have bs' : vs < 4294967296 := by omega
        rw [← hvs] at HN HZ0 HX0
        clear hvs
        go_upto_region 9 with (fail)
        go_region
        generalize hX : World.drew (World.setCell _ _ _) = X
        have x1 : X.heap[w.heap.size + 1]? = some (row32 72 (l.set 0 vs)) := by rw [← hX]; exact set32 HR.out
        have x2 : Below (w.heap.size + 1) W X := by rw [← hX]; exact (HE.out.setCell (p := ⟨w.heap.size + 1, 0, none⟩) (Nat.le_refl _) _).drew
        have x3 : X.cell? ⟨w.heap.size, k, none⟩ = some (.int .u64 (tn k : Nat)) := cell64 ((x2.block _ (by omega)).trans H1.out) (j := k) hlt
        have cx2 := cell32 x1 (j := 0) (by rw [List.length_set, Hln.out]; omega)
        have cz2 := cell32 x1 (j := 3) (by rw [List.length_set, Hln.out]; omega)
        rw [HX0.out] at cx2
        rw [HZ0.out] at cz2
        have fz := frozen_of_row X (w.heap.size + 1) 3 _ _ x1
        have X1 := hide1 x1
        have X2 := hide1 x2
        clear x1 x2 hX cx cy fx ct
        obtain ⟨vo, hvo⟩ : ∃ v, v = vz ^^^ vs := ⟨_, rfl⟩
        have e2 : bits .xor .u32 (vz : Int) (vs : Int) = (vo : Int) := by rw [hvo]; exact u32_xor_nat _ _ bz bs'
        have bo : vo < 4294967296 := by rw [hvo]; exact xor_lt bz bs'
        rw [← hvo] at HN
        have kl := fun w => hide1 (left_any vo (tn k) w (tn_bounds hlt).1 (tn_bounds hlt).2 bo)
        clear hvo HZ0 HX0
        generalize tn k = t at *
        generalize rotl t vo = r at *
        go_wp2_with (fail)
        refine region_f (F := [17]) (S := fun w' => w'.cell? ⟨w.heap.size + 1, 3, none⟩ = some (.int .u32 (vz : Int)) ∧ w'.cell? ⟨w.heap.size + 1, 0, none⟩ = some (.int .u32 (vs : Int)) ∧ w'.cell? ⟨w.heap.size, k, none⟩ = some (.int .u64 (t : Int))) (by kernel_rfl) ⟨cz2, cx2, x3⟩ (fun hS => ?_)
        refine take_p 0 40 (.slice (some ⟨w.heap.size + 1, 0, none⟩) 4 4) rfl rfl (by kernel_rfl) (by kernel_rfl) (by kernel_rfl) (fun _ _ _ h => h) rfl (fun w => by go_simp) ?_
        try simp only [List.setIfInBounds_toArray, List.set_cons_zero, List.set_cons_succ]
        refine take_p 1 41 (.int .i64 3) rfl rfl (by kernel_rfl) (by kernel_rfl) (by kernel_rfl) (fun _ _ _ h => h) rfl (fun w => by go_simp) ?_
        try simp only [List.setIfInBounds_toArray, List.set_cons_zero, List.set_cons_succ]
        refine take_p 2 42 (.slice (some ⟨w.heap.size + 1, 0, none⟩) 4 4) rfl rfl (by kernel_rfl) (by kernel_rfl) (by kernel_rfl) (fun _ _ _ h => h) rfl (fun w => by go_simp) ?_
        try simp only [List.setIfInBounds_toArray, List.set_cons_zero, List.set_cons_succ]
        refine take_p 3 43 (.int .i64 3) rfl rfl (by kernel_rfl) (by kernel_rfl) (by kernel_rfl) (fun _ _ _ h => h) rfl (fun w => by go_simp) ?_
        try simp only [List.setIfInBounds_toArray, List.set_cons_zero, List.set_cons_succ]
        refine take_p 4 44 (.pointer (some ⟨w.heap.size + 1, 3, none⟩)) rfl rfl (by kernel_rfl) (by kernel_rfl) (by kernel_rfl) (fun _ _ _ h => h) rfl (fun w => by go_simp) ?_
        try simp only [List.setIfInBounds_toArray, List.set_cons_zero, List.set_cons_succ]
        refine take_f 5 45 (.int .u32 (vz : Int)) [10, 15, 16, 17] rfl rfl (by kernel_rfl) (by kernel_rfl) (by kernel_rfl) (by kernel_rfl) (by kernel_rfl) (by kernel_rfl) (fun _ _ _ h => h) rfl (fun w hSw => by have h1 := hSw.1; clear hSw; go_simp) hS ?_
        try simp only [List.setIfInBounds_toArray, List.set_cons_zero, List.set_cons_succ]
        refine take_p 6 46 (.slice (some ⟨w.heap.size + 1, 0, none⟩) 4 4) rfl rfl (by kernel_rfl) (by kernel_rfl) (by kernel_rfl) (fun _ _ _ h => h) rfl (fun w => by go_simp) ?_
        try simp only [List.setIfInBounds_toArray, List.set_cons_zero, List.set_cons_succ]
        refine take_p 7 47 (.int .i64 0) rfl rfl (by kernel_rfl) (by kernel_rfl) (by kernel_rfl) (fun _ _ _ h => h) rfl (fun w => by go_simp) ?_
        try simp only [List.setIfInBounds_toArray, List.set_cons_zero, List.set_cons_succ]
        refine take_p 8 48 (.pointer (some ⟨w.heap.size + 1, 0, none⟩)) rfl rfl (by kernel_rfl) (by kernel_rfl) (by kernel_rfl) (fun _ _ _ h => h) rfl (fun w => by go_simp) ?_
        try simp only [List.setIfInBounds_toArray, List.set_cons_zero, List.set_cons_succ]
        refine take_f 9 49 (.int .u32 (vs : Int)) [10, 15, 16, 17] rfl rfl (by kernel_rfl) (by kernel_rfl) (by kernel_rfl) (by kernel_rfl) (by kernel_rfl) (by kernel_rfl) (fun _ _ _ h => h) rfl (fun w hSw => by have h1 := hSw.2.1; clear hSw; go_simp) hS ?_
        try simp only [List.setIfInBounds_toArray, List.set_cons_zero, List.set_cons_succ]
        refine take_p 10 50 (.int .u32 (vo : Int)) rfl rfl (by kernel_rfl) (by kernel_rfl) (by kernel_rfl) (fun _ _ _ h => h) rfl (fun w => by go_simp) ?_
        try simp only [List.setIfInBounds_toArray, List.set_cons_zero, List.set_cons_succ]
        refine take_p 11 51 (.slice (some ⟨w.heap.size, 0, none⟩) 4 4) rfl rfl (by kernel_rfl) (by kernel_rfl) (by kernel_rfl) (fun _ _ _ h => h) rfl (fun w => by go_simp) ?_
        try simp only [List.setIfInBounds_toArray, List.set_cons_zero, List.set_cons_succ]
        refine take_p 12 52 (.int .i64 (k : Int)) rfl rfl (by kernel_rfl) (by kernel_rfl) (by kernel_rfl) (fun _ _ _ h => h) rfl (fun w => by go_simp) ?_
        try simp only [List.setIfInBounds_toArray, List.set_cons_zero, List.set_cons_succ]
        refine take_p 13 53 (.pointer (some ⟨w.heap.size, k, none⟩)) rfl rfl (by kernel_rfl) (by kernel_rfl) (by kernel_rfl) (fun _ _ _ h => h) rfl (fun w => by go_simp) ?_
        try simp only [List.setIfInBounds_toArray, List.set_cons_zero, List.set_cons_succ]
        refine take_f 14 54 (.int .u64 (t : Int)) [15, 16, 17] rfl rfl (by kernel_rfl) (by kernel_rfl) (by kernel_rfl) (by kernel_rfl) (by kernel_rfl) (by kernel_rfl) (fun _ _ _ h => h) rfl (fun w hSw => by have h1 := hSw.2.2; clear hSw; go_simp) hS ?_
        try simp only [List.setIfInBounds_toArray, List.set_cons_zero, List.set_cons_succ]
        refine ready_f 15 (o := { dst := some 55, op := Op.call { callee := Callee.value (Operand.func 66), args := #[Operand.tmp 50, Operand.tmp 54], argTypes := #[72, 69] }, type := 72, pos := "ref.go:28", after := #[{ on := 10, ground := Ground.data }, { on := 14, ground := Ground.data }], guard := none }) (by kernel_rfl) rfl (fun K hK => ?_)
        go_simp
        refine (kl _).out.mono ?_
        rintro e w' ⟨rfl, rfl⟩
        refine hK.out _ _ (fun _ h => h) ?_
        clear hK K
        try simp only [Act.put, List.setIfInBounds_toArray, List.set_cons_zero, List.set_cons_succ]
        refine take_p 16 56 (.pointer (some ⟨w.heap.size + 1, 3, none⟩)) rfl rfl (by kernel_rfl) (by kernel_rfl) (by kernel_rfl) (fun _ _ _ h => h) rfl (fun w => by go_simp) ?_
        try simp only [List.setIfInBounds_toArray, List.set_cons_zero, List.set_cons_succ]
        refine ready_f 17 (o := { dst := none, op := Op.store 72 (Operand.tmp 56) (Operand.tmp 55), type := 0, pos := "ref.go:28", after := #[{ on := 16, ground := Ground.data }, { on := 15, ground := Ground.data }, { on := 15, ground := Ground.chain }, { on := 0, ground := Ground.phase }, { on := 1, ground := Ground.phase }, { on := 2, ground := Ground.phase }, { on := 3, ground := Ground.phase }, { on := 4, ground := Ground.phase }, { on := 5, ground := Ground.phase }, { on := 6, ground := Ground.phase }, { on := 7, ground := Ground.phase }, { on := 8, ground := Ground.phase }, { on := 9, ground := Ground.phase }, { on := 10, ground := Ground.phase }, { on := 11, ground := Ground.phase }, { on := 12, ground := Ground.phase }, { on := 13, ground := Ground.phase }, { on := 14, ground := Ground.phase }, { on := 15, ground := Ground.phase }], guard := none }) (by kernel_rfl) rfl (fun K hK => ?_)
        go_simp
        refine hK.out _ _ (fun h => absurd (by decide) h) ?_
        clear hK K
        refine done_f (by kernel_rfl) ?_ _
        go_wp2
        go_roundw
        case rel =>
          refine ⟨k + 1, by omega, by go_num, ?_, ?_⟩
          · show (X.setCell _ _).heap[_]? = _
            rw [set32 X1.out, HN.out]
          · exact (X2.out.setCell (p := ⟨w.heap.size + 1, 3, none⟩) (Nat.le_refl _) _).drew
        case measure => simp [intOf]; omega
    · have : k = 4 := by omega
      subst this
      have HR := hide1 hrow
      have HE := hide1 hbe
      clear hrow hbe
      go_wp2
      go_ret
      exact ⟨rfl, HR.out, H3.out.trans (HE.out.mono (by omega))⟩

end Go.Proofs.Ytdmodknjcdkocaa.Pg
