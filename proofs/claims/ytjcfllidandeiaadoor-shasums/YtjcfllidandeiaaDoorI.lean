/- The bytes of the words: digest. -/
import Derived.Test.YtjcfllidandeiaaDoorH
namespace Go.Proofs.YtjcfllidandeiaaDoor
open Go.RowKit
set_option maxRecDepth 100000
attribute [local go_sem] not_any

def digP (h : List Nat) (k : Nat) : List Nat := (h.take k).flatMap bytesP ++ zeros (32 - 4 * k)
def dig (h : List Nat) : List Nat := h.flatMap bytesP

theorem flat_length (h : List Nat) : (h.flatMap bytesP).length = 4 * h.length := by
  induction h with
  | nil => rfl
  | cons x h ih => rw [List.flatMap_cons, List.length_append, ih]; simp [bytesP]; omega
theorem digP_length {h : List Nat} (hl : h.length = 8) {k : Nat} (hk : k ≤ 8) : (digP h k).length = 32 := by
  rw [digP, List.length_append, flat_length, zeros_length, List.length_take, hl]
  omega
theorem splice8 {h : List Nat} (hl : h.length = 8) {k : Nat} (hk : k < 8) : splice (u8s (digP h k)) (4 * k) (u8s (bytesP (at0 h k))) = u8s (digP h (k + 1)) := by
  have e1 : ((h.take k).flatMap bytesP).length = 4 * k := by rw [flat_length, List.length_take, hl]; omega
  have e2 : h.take (k + 1) = h.take k ++ [at0 h k] := by rw [List.take_add_one, get_at0 (by omega)]; rfl
  have e3 : (bytesP (at0 h k)).length = 4 := rfl
  unfold splice
  rw [u8s_length, e3]
  unfold u8s
  rw [← List.map_take, ← List.map_drop, ← List.map_append, ← List.map_append]
  congr 1
  rw [digP, digP, e2, List.flatMap_append, List.take_append_of_le_length (by omega), List.take_of_length_le (by omega), List.drop_append, e1]
  rw [List.drop_eq_nil_of_le (by omega)]
  simp [zeros]
  omega
theorem dig_all {h : List Nat} (hl : h.length = 8) : digP h 8 = dig h := by
  rw [digP, List.take_of_length_le (by omega)]
  simp [zeros, dig]
theorem dig_length {h : List Nat} (hl : h.length = 8) : (dig h).length = 32 := by rw [← dig_all hl, digP_length hl (Nat.le_refl _)]

theorem store_row {w : World} {g : Nat} {t : TypeId} {cs : Array Value} (l : List Nat) (hs : cs.size = l.length) (hi : (Tryd.prog.info? t).map (·.size) = some l.length) (h : w.heap[g]? = some (.cells cs t (0, 0))) :
    (storeCells ⟨g, 0, none⟩ (u8s l)).run Tryd.prog w = .ok () (w.setRow g (u8s l).toArray) := by
  have e := run_storeVar_row (P := Tryd.prog) w g t t cs (u8s l).toArray h (by rw [hi]; simp [u8s]) (by rw [hs]; simp [u8s]) (all_one (u8s_one _))
  cases hq : Tryd.prog.info? t with
  | none => simp [hq] at hi
  | some i =>
    have hs : l.length = i.size := by simp [hq] at hi; omega
    simpa [storeVar, sizeOf, typeInfo, hq, Value.cells, u8s_length, hs] using e

theorem run_arrl (T n : Nat) (hT : Tryd.prog.underlying T = some (.array n 5)) (g p : Nat) (w : World) (h : p < n) :
    (Instr.sliceAt T (.pointer (some ⟨g, 0, none⟩)) (some (.int .i64 (p : Int))) none none).run Tryd.prog w = .ok (.slice (some ⟨g, p, none⟩) (n - p) (n - p)) w := by
  have hs : (sizeOf 5).run Tryd.prog w = .ok 1 w := by kernel_rfl
  have a1 : (p : Int) ≤ (n : Int) := by omega
  have a2 : ¬ n = p := by omega
  simp [Instr.sliceAt, Instr.sureAddr, run_underlying hT, Instr.sliceBounds, run_sliceBound, a1, a2, Addr.add_lit]

set_option maxHeartbeats 2000000 in
theorem digest_any (g : List Nat) (w : World) (hg : g.length = 8) (bg : Lt 4294967296 g) (hL : Laid w) :
    Calls Tryd.prog 24 #[arr32 g] w fun e w' => e = .returned (arr8 (dig (addW FIRST g))) ∧ Below w.heap.size w w' := by
  have HL := hide1 hL
  have HG := hide1 bg
  have Hg := hide1 hg
  clear hL bg hg
  unfold arr32
  go_enter Tryd.func24, Tryd.ntmps24
  go_upto_block 0 with (fail)
  generalize hW : World.alloc (World.alloc (World.alloc w _) _) _ = W
  have F := three w (row32 32 g) (row8 24 (zeros 32)) (row8 24 (zeros 32))
  have F' : Three w W (row32 32 g) (row8 24 (zeros 32)) (row8 24 (zeros 32)) := by rw [← hW]; exact F
  clear F hW
  have HF := hide1 F'
  clear F'
  go_wp2
  go_loopw [6] (fun i wr => ∃ k : Nat, k ≤ 8 ∧ i = .int .i64 k ∧ wr.heap[w.heap.size + 1 + 1]? = some (row8 24 (digP (addW FIRST g) k)) ∧ Below (w.heap.size + 1 + 1) W wr) (fun i _ => 8 - (intOf i).toNat)
  case atStart => exact ⟨0, Nat.zero_le _, rfl, HF.out.c, Below.refl _ _⟩
  case round =>
    obtain ⟨k, hk, rfl, hrow, hbe⟩ := hrel
    by_cases hlt : k < 8
    · have c1 : wr.cell? ⟨0, k, none⟩ = some (.int .u32 (at0 FIRST k : Nat)) := ((HL.out.below HF.out.below HL.out.two).below hbe (by have := HL.out.two; omega)).first k hlt
      have c2 := cell32 ((hbe.block _ (by omega)).trans HF.out.a) (j := k) (by rw [Hg.out]; exact hlt)
      have HS8 := hide1 (splice8 (addW_length FIRST g) hlt)
      have Hx : Hid (at0 (addW FIRST g) k = (at0 FIRST k + at0 g k) % 4294967296) := at0_addW hlt
      have hr := lt_heap hrow
      have s1 : 0 < wr.heap.size := by omega
      have s2 : w.heap.size < wr.heap.size := by omega
      have HS : Hid (∀ w', Below wr.heap.size wr w' → w'.cell? ⟨0, k, none⟩ = some (.int .u32 (at0 FIRST k : Nat)) ∧ w'.cell? ⟨w.heap.size, k, none⟩ = some (.int .u32 (at0 g k : Nat))) := by
        show ∀ w', _
        exact fun w' hB => ⟨(hB.cell (p := ⟨0, _, none⟩) s1).trans c1, (hB.cell (p := ⟨w.heap.size, _, none⟩) s2).trans c2⟩
      rw [Hx.out] at HS8
      generalize at0 FIRST k = x at *
      generalize at0 g k = y at *
      have cb := fun w => hide1 (bytes_any ((x + y) % 4294967296) w (Nat.mod_lt _ (by omega)))
      unfold arr8 at cb
      have esum : IntKind.u32.wrap ((x : Int) + (y : Int)) = (((x + y) % 4294967296 : Nat) : Int) := wrap32_add _ _
      have HR := hide1 hrow
      have HE := hide1 hbe
      have Hr := hide1 hr
      clear hrow hbe hr s1 s2 Hx
      generalize (x + y) % 4294967296 = z at *
      have hst : ∀ v : World, (storeCells ⟨v.heap.size, 0, none⟩ (u8s (bytesP z))).run Tryd.prog (v.alloc (.cells #[Value.int IntKind.u8 0, Value.int IntKind.u8 0, Value.int IntKind.u8 0, Value.int IntKind.u8 0] 64)) = .ok () (v.alloc (.cells (u8s (bytesP z)).toArray 64)) :=
        fun v => run_storeCells_new (P := Tryd.prog) v 64 _ (u8s (bytesP z)).toArray (by kernel_rfl) rfl (all_one (u8s_one _))
      go_upto_region 5 with (fail)
      go_region_held3 (fun w' => w'.cell? ⟨0, k, none⟩ = some (.int .u32 (x : Int)) ∧ w'.cell? ⟨w.heap.size, k, none⟩ = some (.int .u32 (y : Int)))
        ((refine HS.out _ ?_; first | exact (Below.refl _ _).drew | exact ((Below.refl _ _).alloc (Nat.le_refl _) _).drew | exact K1.out | exact K1.out.alloc K1.out.size _ | exact Below.setRow' K1.out (Nat.le_refl _) _ | fail))
        (first
          | (go_at_call 33; refine (cb _).out.mono ?_; rintro e w1 ⟨rfl, hb1⟩; have K1 : Hid (Below wr.heap.size wr w1) := (Below.refl _ _).drew.trans hb1)
          | (go_at_call 33; refine (cb _).out.mono ?_; rintro e w1 ⟨rfl, hb1⟩; have K1 : Hid (Below wr.heap.size wr w1) := ((Below.refl _ _).alloc (Nat.le_refl _) _).drew.trans (hb1.mono (by simp)); have hst2 := store_row (t := 64) (bytesP z) rfl (by kernel_rfl) ((hb1.block _ (by simp)).trans (heap_alloc_new wr _)); have HX1 := hide1 ((hb1.block wr.heap.size (by simp)).trans (heap_alloc_new wr _)))
          | fail)
      · have z1 := heap_alloc_new w1 (row8 64 (bytesP z))
        have z2 : Below wr.heap.size wr (w1.alloc (row8 64 (bytesP z))) := K1.out.alloc K1.out.size _
        have z3 := K1.out.size
        generalize hZ : World.alloc w1 _ = Z
        have hZ' : w1.alloc (row8 64 (bytesP z)) = Z := hZ
        rw [hZ'] at z1 z2
        clear hZ hZ'
        generalize w1.heap.size = bk at z1 z3
        have Z1 := hide1 z1
        have Z2 := hide1 z2
        have Z3 : Hid (wr.heap.size ≤ bk) := by first | exact z3 | exact z3'
        have ZR : Hid (Z.heap[w.heap.size + 1 + 1]? = some (row8 24 (digP (addW FIRST g) k))) := (z2.block _ Hr.out).trans HR.out
        clear z1 z2
        clear hst K1 hb1 cb HS
        have e4 : 4 * (k : Int) = ((4 * k : Nat) : Int) := by omega
        obtain ⟨p, hp⟩ : ∃ p, p = 4 * k := ⟨_, rfl⟩
        rw [← hp] at e4 HS8
        have hp32 : (p : Int) < 32 := by omega
        have hpn : ¬ (32 : Nat) = p := by omega
        have hp28 : p + 4 ≤ 32 := by omega
        have HP := hide1 hp
        clear hp
        have wp : IntKind.i64.wrap (p : Int) = (p : Int) := by rw [IntKind.wrap_i64]; omega
        have hsl := fun w' => run_arrl 24 32 Tryd.underlying24 (w.heap.size + 1 + 1) p w' (by omega)
        go_wp2
        go_region_law (refine step_copy_splice rfl (.tmp 19) (.tmp 20) 50 50 rfl 5 Tryd.underlying50 size5 (some ⟨w.heap.size + 1 + 1, p, none⟩) (some ⟨bk, 0, none⟩) (32 - p) (32 - p) 4 4 rfl rfl (w.heap.size + 1 + 1) p (u8s (digP (addW FIRST g) k)) 24 ZR.out (u8s (bytesP z)) (by rw [u8s_length]; show 4 = min 4 (32 - p); omega) (fun _ => ⟨rfl, _, rfl, fun j v hj => by rw [Addr.add_lit, Nat.zero_add]; exact (cell_of_row _ _ j _ 64 (0, 0) Z1.out).trans (by simpa using hj)⟩) (by rw [u8s_length, u8s_length, digP_length (addW_length _ _) hk]; exact hp28) (u8s_one _) (w.heap.size + 1 + 1) W (HE.out.trans (Z2.out.mono (Nat.le_of_lt Hr.out))).drew (Nat.le_refl _) ?_; intro w4 hg4 hb4)
        have G4 : Hid (w4.heap[w.heap.size + 1 + 1]? = some (row8 24 (digP (addW FIRST g) (k + 1)))) := by
          show _ = _
          rw [hg4.out, HS8.out]
          rfl
        have B4 := hide1 hb4
        clear hg4 hb4
        go_wp2
        go_roundw
        case rel => exact ⟨k + 1, by omega, by go_num, G4.out, B4.out⟩
        case measure => simp [intOf]; omega
      · have z1 : (w1.setRow wr.heap.size (u8s (bytesP z)).toArray).heap[wr.heap.size]? = some (row8 64 (bytesP z)) := setRow_heap _ _ _ _ _ _ HX1.out
        have z2 := Below.setRow' K1.out (Nat.le_refl _) (u8s (bytesP z)).toArray
        have z3 := Nat.le_refl wr.heap.size
        generalize hZ : World.setRow w1 _ _ = Z
        rw [hZ] at z1 z2
        clear hZ
        obtain ⟨bk, hbk⟩ : ∃ bk, wr.heap.size = bk := ⟨_, rfl⟩
        rw [hbk] at z1
        have z3' : wr.heap.size ≤ bk := by omega
        rw [hbk]
        clear hbk z3
        have Z1 := hide1 z1
        have Z2 := hide1 z2
        have Z3 : Hid (wr.heap.size ≤ bk) := by first | exact z3 | exact z3'
        have ZR : Hid (Z.heap[w.heap.size + 1 + 1]? = some (row8 24 (digP (addW FIRST g) k))) := (z2.block _ Hr.out).trans HR.out
        clear z1 z2
        clear hst K1 hb1 cb HS
        have e4 : 4 * (k : Int) = ((4 * k : Nat) : Int) := by omega
        obtain ⟨p, hp⟩ : ∃ p, p = 4 * k := ⟨_, rfl⟩
        rw [← hp] at e4 HS8
        have hp32 : (p : Int) < 32 := by omega
        have hpn : ¬ (32 : Nat) = p := by omega
        have hp28 : p + 4 ≤ 32 := by omega
        have HP := hide1 hp
        clear hp
        have wp : IntKind.i64.wrap (p : Int) = (p : Int) := by rw [IntKind.wrap_i64]; omega
        have hsl := fun w' => run_arrl 24 32 Tryd.underlying24 (w.heap.size + 1 + 1) p w' (by omega)
        go_wp2
        go_region_law (refine step_copy_splice rfl (.tmp 19) (.tmp 20) 50 50 rfl 5 Tryd.underlying50 size5 (some ⟨w.heap.size + 1 + 1, p, none⟩) (some ⟨bk, 0, none⟩) (32 - p) (32 - p) 4 4 rfl rfl (w.heap.size + 1 + 1) p (u8s (digP (addW FIRST g) k)) 24 ZR.out (u8s (bytesP z)) (by rw [u8s_length]; show 4 = min 4 (32 - p); omega) (fun _ => ⟨rfl, _, rfl, fun j v hj => by rw [Addr.add_lit, Nat.zero_add]; exact (cell_of_row _ _ j _ 64 (0, 0) Z1.out).trans (by simpa using hj)⟩) (by rw [u8s_length, u8s_length, digP_length (addW_length _ _) hk]; exact hp28) (u8s_one _) (w.heap.size + 1 + 1) W (HE.out.trans (Z2.out.mono (Nat.le_of_lt Hr.out))).drew (Nat.le_refl _) ?_; intro w4 hg4 hb4)
        have G4 : Hid (w4.heap[w.heap.size + 1 + 1]? = some (row8 24 (digP (addW FIRST g) (k + 1)))) := by
          show _ = _
          rw [hg4.out, HS8.out]
          rfl
        have B4 := hide1 hb4
        clear hg4 hb4
        go_wp2
        go_roundw
        case rel => exact ⟨k + 1, by omega, by go_num, G4.out, B4.out⟩
        case measure => simp [intOf]; omega
    · have : k = 8 := by omega
      subst this
      rw [dig_all (addW_length _ _)] at hrow
      have hr2 : wr.heap[w.heap.size + 1]? = some (row8 24 (zeros 32)) := (hbe.block _ (by omega)).trans HF.out.b
      have HR := hide1 hrow
      have HR2 := hide1 hr2
      have HE := hide1 hbe
      have hz : (u8s (dig (addW FIRST g))).toArray.size = 32 := by simp [u8s, dig_length (addW_length FIRST g)]
      have Hz := hide1 hz
      clear hrow hr2 hbe hz
      go_wp2_with (first | (refine wpList_load_row rfl 24 (.tmp 3) rfl (w.heap.size + 1 + 1) rfl 24 (u8s (dig (addW FIRST g))).toArray (0, 0) _ HR.out Tryd.underlying24 rfl (by rw [Hz.out]; kernel_rfl) ?_) | (refine wpList_store_own rfl 24 (.tmp 2) (.tmp 23) rfl (w.heap.size + 1) rfl (u8s (dig (addW FIRST g))).toArray rfl 24 _ HR2.out (by rw [Hz.out]; kernel_rfl) (by rw [Hz.out]; simp [u8s, zeros]) (all_one (u8s_one _)) ?_))
      refine ret_row Tryd.results24 (w.heap.size + 1) 24 (u8s (dig (addW FIRST g))).toArray rfl (setRow_heap _ _ _ _ _ _ HR2.out) Tryd.underlying24 (by rw [Hz.out]; kernel_rfl) rfl ⟨rfl, ?_⟩
      exact Below.setRow' (HF.out.below.trans (HE.out.mono (by omega))) (by omega) _
end Go.Proofs.YtjcfllidandeiaaDoor
