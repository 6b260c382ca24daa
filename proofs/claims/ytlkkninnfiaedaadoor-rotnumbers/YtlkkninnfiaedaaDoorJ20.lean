/- The bytes of the words: digest. Pure: bytes taken part by part. A Sums in memory; what is stored into the middle of a row; bytes copied out of a text; held, Len. -/
import Derived.Test.YtlkkninnfiaedaaDoorJ19
namespace Go.Proofs.YtlkkninnfiaedaaDoor.Sh
open Go.RowKit
set_option maxRecDepth 100000
attribute [local go_sem] not_any

def digP (h : List Nat) (k : Nat) : List Nat := (h.take k).flatMap bytesP ++ zeros (32 - 4 * k)
def dig (h : List Nat) : List Nat := h.flatMap bytesP

theorem flat_length (h : List Nat) : (h.flatMap bytesP).length = 4 * h.length := by
  induction h with
  | nil => rfl
  | cons x h ih => rw [List.flatMap_cons, List.length_append, ih]; simp [bytesP]; omega
theorem digP_length {h : List Nat} (hl : h.length = 8) {k : Nat} (hk : k ≤ 8) : (digP h k).length = 32 := by
  rw [digP, List.length_append, flat_length, zeros_length, List.length_take, hl]
  omega
theorem splice8 {h : List Nat} (hl : h.length = 8) {k : Nat} (hk : k < 8) : splice (u8s (digP h k)) (4 * k) (u8s (bytesP (at0 h k))) = u8s (digP h (k + 1)) := by
  have e1 : ((h.take k).flatMap bytesP).length = 4 * k := by rw [flat_length, List.length_take, hl]; omega
  have e2 : h.take (k + 1) = h.take k ++ [at0 h k] := by rw [List.take_add_one, get_at0 (by omega)]; rfl
  have e3 : (bytesP (at0 h k)).length = 4 := rfl
  unfold splice
  rw [u8s_length, e3]
  unfold u8s
  rw [← List.map_take, ← List.map_drop, ← List.map_append, ← List.map_append]
  congr 1
  rw [digP, digP, e2, List.flatMap_append, List.take_append_of_le_length (by omega), List.take_of_length_le (by omega), List.drop_append, e1]
  rw [List.drop_eq_nil_of_le (by omega)]
  simp [zeros]
  omega
theorem dig_all {h : List Nat} (hl : h.length = 8) : digP h 8 = dig h := by
  rw [digP, List.take_of_length_le (by omega)]
  simp [zeros, dig]
theorem dig_length {h : List Nat} (hl : h.length = 8) : (dig h).length = 32 := by rw [← dig_all hl, digP_length hl (Nat.le_refl _)]

theorem store_row {w : World} {g : Nat} {t : TypeId} {cs : Array Value} (l : List Nat) (hs : cs.size = l.length) (hi : (Tryd.prog.info? t).map (·.size) = some l.length) (h : w.heap[g]? = some (.cells cs t (0, 0))) :
    (storeCells ⟨g, 0, none⟩ (u8s l)).run Tryd.prog w = .ok () (w.setRow g (u8s l).toArray) := by
  have e := run_storeVar_row (P := Tryd.prog) w g t t cs (u8s l).toArray h (by rw [hi]; simp [u8s]) (by rw [hs]; simp [u8s]) (all_one (u8s_one _))
  cases hq : Tryd.prog.info? t with
  | none => simp [hq] at hi
  | some i =>
    have hs : l.length = i.size := by simp [hq] at hi; omega
    simpa [storeVar, sizeOf, typeInfo, hq, Value.cells, u8s_length, hs] using e

theorem run_arrl (T n : Nat) (hT : Tryd.prog.underlying T = some (.array n 5)) (g p : Nat) (w : World) (h : p < n) :
    (Instr.sliceAt T (.pointer (some ⟨g, 0, none⟩)) (some (.int .i64 (p : Int))) none none).run Tryd.prog w = .ok (.slice (some ⟨g, p, none⟩) (n - p) (n - p)) w := by
  have hs : (sizeOf 5).run Tryd.prog w = .ok 1 w := by kernel_rfl
  have a1 : (p : Int) ≤ (n : Int) := by omega
  have a2 : ¬ n = p := by omega
  simp [Instr.sliceAt, Instr.sureAddr, run_underlying hT, Instr.sliceBounds, run_sliceBound, a1, a2, Addr.add_lit]

set_option maxHeartbeats 2000000 in
theorem digest_any (g : List Nat) (w : World) (hg : g.length = 8) (bg : Lt 4294967296 g) (hL : Laid w) :
    Calls Tryd.prog 76 #[arr32 g] w fun e w' => e = .returned (arr8 (dig (addW FIRST g))) ∧ Below w.heap.size w w' := by
  have HL := hide1 hL
  have HG := hide1 bg
  have Hg := hide1 hg
  clear hL bg hg
  unfold arr32
  go_enter Tryd.func76, Tryd.ntmps76
  go_upto_block 0 with (fail)
  generalize hW : World.alloc (World.alloc (World.alloc w _) _) _ = W
  have F := three w (row32 102 g) (row8 76 (zeros 32)) (row8 76 (zeros 32))
  have F' : Three w W (row32 102 g) (row8 76 (zeros 32)) (row8 76 (zeros 32)) := by rw [← hW]; exact F
  clear F hW
  have HF := hide1 F'
  clear F'
  go_wp2
  go_loopw [6] (fun i wr => ∃ k : Nat, k ≤ 8 ∧ i = .int .i64 k ∧ wr.heap[w.heap.size + 1 + 1]? = some (row8 76 (digP (addW FIRST g) k)) ∧ Below (w.heap.size + 1 + 1) W wr) (fun i _ => 8 - (intOf i).toNat)
  case atStart => exact ⟨0, Nat.zero_le _, rfl, HF.out.c, Below.refl _ _⟩
  case round =>
    obtain ⟨k, hk, rfl, hrow, hbe⟩ := hrel
    by_cases hlt : k < 8
    · have c1 : wr.cell? ⟨0, k, none⟩ = some (.int .u32 (at0 FIRST k : Nat)) := ((HL.out.below HF.out.below HL.out.two).below hbe (by have := HL.out.two; omega)).first k hlt
      have c2 := cell32 ((hbe.block _ (by omega)).trans HF.out.a) (j := k) (by rw [Hg.out]; exact hlt)
      have HS8 := hide1 (splice8 (addW_length FIRST g) hlt)
      have Hx : Hid (at0 (addW FIRST g) k = (at0 FIRST k + at0 g k) % 4294967296) := at0_addW hlt
      have hr := lt_heap hrow
      have s1 : 0 < wr.heap.size := by omega
      have s2 : w.heap.size < wr.heap.size := by omega
      have HS : Hid (∀ w', Below wr.heap.size wr w' → w'.cell? ⟨0, k, none⟩ = some (.int .u32 (at0 FIRST k : Nat)) ∧ w'.cell? ⟨w.heap.size, k, none⟩ = some (.int .u32 (at0 g k : Nat))) := by
        show ∀ w', _
        exact fun w' hB => ⟨(hB.cell (p := ⟨0, _, none⟩) s1).trans c1, (hB.cell (p := ⟨w.heap.size, _, none⟩) s2).trans c2⟩
      rw [Hx.out] at HS8
      generalize at0 FIRST k = x at *
      generalize at0 g k = y at *
      have cb := fun w => hide1 (bytes_any ((x + y) % 4294967296) w (Nat.mod_lt _ (by omega)))
      unfold arr8 at cb
      have esum : IntKind.u32.wrap ((x : Int) + (y : Int)) = (((x + y) % 4294967296 : Nat) : Int) := wrap32_add _ _
      have HR := hide1 hrow
      have HE := hide1 hbe
      have Hr := hide1 hr
      clear hrow hbe hr s1 s2 Hx
      generalize (x + y) % 4294967296 = z at *
      have hst : ∀ v : World, (storeCells ⟨v.heap.size, 0, none⟩ (u8s (bytesP z))).run Tryd.prog (v.alloc (.cells #[Value.int IntKind.u8 0, Value.int IntKind.u8 0, Value.int IntKind.u8 0, Value.int IntKind.u8 0] 133)) = .ok () (v.alloc (.cells (u8s (bytesP z)).toArray 133)) :=
        fun v => run_storeCells_new (P := Tryd.prog) v 133 _ (u8s (bytesP z)).toArray (by kernel_rfl) rfl (all_one (u8s_one _))
      go_upto_region 5 with (fail)
      go_region_held3 (fun w' => w'.cell? ⟨0, k, none⟩ = some (.int .u32 (x : Int)) ∧ w'.cell? ⟨w.heap.size, k, none⟩ = some (.int .u32 (y : Int)))
        ((refine HS.out _ ?_; first | exact (Below.refl _ _).drew | exact ((Below.refl _ _).alloc (Nat.le_refl _) _).drew | exact K1.out | exact K1.out.alloc K1.out.size _ | exact Below.setRow' K1.out (Nat.le_refl _) _ | fail))
        (first
          | (go_at_call 71; refine (cb _).out.mono ?_; rintro e w1 ⟨rfl, hb1⟩; have K1 : Hid (Below wr.heap.size wr w1) := (Below.refl _ _).drew.trans hb1)
          | (go_at_call 71; refine (cb _).out.mono ?_; rintro e w1 ⟨rfl, hb1⟩; have K1 : Hid (Below wr.heap.size wr w1) := ((Below.refl _ _).alloc (Nat.le_refl _) _).drew.trans (hb1.mono (by simp)); have hst2 := store_row (t := 133) (bytesP z) rfl (by kernel_rfl) ((hb1.block _ (by simp)).trans (heap_alloc_new wr _)); have HX1 := hide1 ((hb1.block wr.heap.size (by simp)).trans (heap_alloc_new wr _)))
          | fail)
      · have z1 := heap_alloc_new w1 (row8 133 (bytesP z))
        have z2 : Below wr.heap.size wr (w1.alloc (row8 133 (bytesP z))) := K1.out.alloc K1.out.size _
        have z3 := K1.out.size
        generalize hZ : World.alloc w1 _ = Z
        have hZ' : w1.alloc (row8 133 (bytesP z)) = Z := hZ
        rw [hZ'] at z1 z2
        clear hZ hZ'
        generalize w1.heap.size = bk at z1 z3
        have Z1 := hide1 z1
        have Z2 := hide1 z2
        have Z3 : Hid (wr.heap.size ≤ bk) := by first | exact z3 | exact z3'
        have ZR : Hid (Z.heap[w.heap.size + 1 + 1]? = some (row8 76 (digP (addW FIRST g) k))) := (z2.block _ Hr.out).trans HR.out
        clear z1 z2
        clear hst K1 hb1 cb HS
        have e4 : 4 * (k : Int) = ((4 * k : Nat) : Int) := by omega
        obtain ⟨p, hp⟩ : ∃ p, p = 4 * k := ⟨_, rfl⟩
        rw [← hp] at e4 HS8
        have hp32 : (p : Int) < 32 := by omega
        have hpn : ¬ (32 : Nat) = p := by omega
        have hp28 : p + 4 ≤ 32 := by omega
        have HP := hide1 hp
        clear hp
        have wp : IntKind.i64.wrap (p : Int) = (p : Int) := by rw [IntKind.wrap_i64]; omega
        have hsl := fun w' => run_arrl 76 32 Tryd.underlying76 (w.heap.size + 1 + 1) p w' (by omega)
        go_wp2
        go_region_law (refine step_copy_splice rfl (.tmp 19) (.tmp 20) 80 80 rfl 5 Tryd.underlying80 size5 (some ⟨w.heap.size + 1 + 1, p, none⟩) (some ⟨bk, 0, none⟩) (32 - p) (32 - p) 4 4 rfl rfl (w.heap.size + 1 + 1) p (u8s (digP (addW FIRST g) k)) 76 ZR.out (u8s (bytesP z)) (by rw [u8s_length]; show 4 = min 4 (32 - p); omega) (fun _ => ⟨rfl, _, rfl, fun j v hj => by rw [Addr.add_lit, Nat.zero_add]; exact (cell_of_row _ _ j _ 133 (0, 0) Z1.out).trans (by simpa using hj)⟩) (by rw [u8s_length, u8s_length, digP_length (addW_length _ _) hk]; exact hp28) (u8s_one _) (w.heap.size + 1 + 1) W (HE.out.trans (Z2.out.mono (Nat.le_of_lt Hr.out))).drew (Nat.le_refl _) ?_; intro w4 hg4 hb4)
        have G4 : Hid (w4.heap[w.heap.size + 1 + 1]? = some (row8 76 (digP (addW FIRST g) (k + 1)))) := by
          show _ = _
          rw [hg4.out, HS8.out]
          rfl
        have B4 := hide1 hb4
        clear hg4 hb4
        go_wp2
        go_roundw
        case rel => exact ⟨k + 1, by omega, by go_num, G4.out, B4.out⟩
        case measure => simp [intOf]; omega
      · have z1 : (w1.setRow wr.heap.size (u8s (bytesP z)).toArray).heap[wr.heap.size]? = some (row8 133 (bytesP z)) := setRow_heap _ _ _ _ _ _ HX1.out
        have z2 := Below.setRow' K1.out (Nat.le_refl _) (u8s (bytesP z)).toArray
        have z3 := Nat.le_refl wr.heap.size
        generalize hZ : World.setRow w1 _ _ = Z
        rw [hZ] at z1 z2
        clear hZ
        obtain ⟨bk, hbk⟩ : ∃ bk, wr.heap.size = bk := ⟨_, rfl⟩
        rw [hbk] at z1
        have z3' : wr.heap.size ≤ bk := by omega
        rw [hbk]
        clear hbk z3
        have Z1 := hide1 z1
        have Z2 := hide1 z2
        have Z3 : Hid (wr.heap.size ≤ bk) := by first | exact z3 | exact z3'
        have ZR : Hid (Z.heap[w.heap.size + 1 + 1]? = some (row8 76 (digP (addW FIRST g) k))) := (z2.block _ Hr.out).trans HR.out
        clear z1 z2
        clear hst K1 hb1 cb HS
        have e4 : 4 * (k : Int) = ((4 * k : Nat) : Int) := by omega
        obtain ⟨p, hp⟩ : ∃ p, p = 4 * k := ⟨_, rfl⟩
        rw [← hp] at e4 HS8
        have hp32 : (p : Int) < 32 := by omega
        have hpn : ¬ (32 : Nat) = p := by omega
        have hp28 : p + 4 ≤ 32 := by omega
        have HP := hide1 hp
        clear hp
        have wp : IntKind.i64.wrap (p : Int) = (p : Int) := by rw [IntKind.wrap_i64]; omega
        have hsl := fun w' => run_arrl 76 32 Tryd.underlying76 (w.heap.size + 1 + 1) p w' (by omega)
        go_wp2
        go_region_law (refine step_copy_splice rfl (.tmp 19) (.tmp 20) 80 80 rfl 5 Tryd.underlying80 size5 (some ⟨w.heap.size + 1 + 1, p, none⟩) (some ⟨bk, 0, none⟩) (32 - p) (32 - p) 4 4 rfl rfl (w.heap.size + 1 + 1) p (u8s (digP (addW FIRST g) k)) 76 ZR.out (u8s (bytesP z)) (by rw [u8s_length]; show 4 = min 4 (32 - p); omega) (fun _ => ⟨rfl, _, rfl, fun j v hj => by rw [Addr.add_lit, Nat.zero_add]; exact (cell_of_row _ _ j _ 133 (0, 0) Z1.out).trans (by simpa using hj)⟩) (by rw [u8s_length, u8s_length, digP_length (addW_length _ _) hk]; exact hp28) (u8s_one _) (w.heap.size + 1 + 1) W (HE.out.trans (Z2.out.mono (Nat.le_of_lt Hr.out))).drew (Nat.le_refl _) ?_; intro w4 hg4 hb4)
        have G4 : Hid (w4.heap[w.heap.size + 1 + 1]? = some (row8 76 (digP (addW FIRST g) (k + 1)))) := by
          show _ = _
          rw [hg4.out, HS8.out]
          rfl
        have B4 := hide1 hb4
        clear hg4 hb4
        go_wp2
        go_roundw
        case rel => exact ⟨k + 1, by omega, by go_num, G4.out, B4.out⟩
        case measure => simp [intOf]; omega
    · have : k = 8 := by omega
      subst this
      rw [dig_all (addW_length _ _)] at hrow
      have hr2 : wr.heap[w.heap.size + 1]? = some (row8 76 (zeros 32)) := (hbe.block _ (by omega)).trans HF.out.b
      have HR := hide1 hrow
      have HR2 := hide1 hr2
      have HE := hide1 hbe
      have hz : (u8s (dig (addW FIRST g))).toArray.size = 32 := by simp [u8s, dig_length (addW_length FIRST g)]
      have Hz := hide1 hz
      clear hrow hr2 hbe hz
      go_wp2_with (first | (refine wpList_load_row rfl 76 (.tmp 3) rfl (w.heap.size + 1 + 1) rfl 76 (u8s (dig (addW FIRST g))).toArray (0, 0) _ HR.out Tryd.underlying76 rfl (by rw [Hz.out]; kernel_rfl) ?_) | (refine wpList_store_own rfl 76 (.tmp 2) (.tmp 23) rfl (w.heap.size + 1) rfl (u8s (dig (addW FIRST g))).toArray rfl 76 _ HR2.out (by rw [Hz.out]; kernel_rfl) (by rw [Hz.out]; simp [u8s, zeros]) (all_one (u8s_one _)) ?_))
      refine ret_row Tryd.results76 (w.heap.size + 1) 76 (u8s (dig (addW FIRST g))).toArray rfl (setRow_heap _ _ _ _ _ _ HR2.out) Tryd.underlying76 (by rw [Hz.out]; kernel_rfl) rfl ⟨rfl, ?_⟩
      exact Below.setRow' (HF.out.below.trans (HE.out.mono (by omega))) (by omega) _
end Go.Proofs.YtlkkninnfiaedaaDoor.Sh

namespace Go.Proofs.YtlkkninnfiaedaaDoor.Sh
open Go.RowKit

def blockAt (l : List Nat) (n : Nat) : List Nat := (l.drop (64 * n)).take 64
def growN (l : List Nat) : Nat → List Nat
  | 0 => zeros 8
  | n + 1 => foldP (growN l n) (wordsOf (blockAt l n))
def grownP (l : List Nat) : List Nat := growN l (l.length / 64)
def restP (l : List Nat) : List Nat := l.drop (64 * (l.length / 64)) ++ zeros (64 - l.length % 64)
def midP (l u : List Nat) : List Nat := l.drop (64 * (l.length / 64)) ++ u ++ zeros (64 - l.length % 64 - u.length)

theorem growN_length (l : List Nat) : ∀ n, (growN l n).length = 8
  | 0 => rfl
  | _ + 1 => addW_length _ _
theorem growN_lt (l : List Nat) : ∀ n, Lt 4294967296 (growN l n)
  | 0 => lt_replicate (by omega) 8
  | _ + 1 => addW_lt _ _
theorem blockAt_app {l u : List Nat} {n : Nat} (h : 64 * (n + 1) ≤ l.length) : blockAt (l ++ u) n = blockAt l n := by
  unfold blockAt
  rw [List.drop_append_of_le_length (by omega), List.take_append_of_le_length (by rw [List.length_drop]; omega)]
theorem growN_app {l u : List Nat} : ∀ {n : Nat}, 64 * n ≤ l.length → growN (l ++ u) n = growN l n
  | 0, _ => rfl
  | n + 1, h => by rw [growN, growN, growN_app (by omega), blockAt_app h]
theorem grownP_length (l : List Nat) : (grownP l).length = 8 := growN_length _ _
theorem grownP_lt (l : List Nat) : Lt 4294967296 (grownP l) := growN_lt _ _
theorem drop_length (l : List Nat) : (l.drop (64 * (l.length / 64))).length = l.length % 64 := by
  rw [List.length_drop]; omega
theorem restP_length (l : List Nat) : (restP l).length = 64 := by
  rw [restP, List.length_append, drop_length, zeros_length]; omega
theorem restP_lt {l : List Nat} (h : Lt 256 l) : Lt 256 (restP l) := (h.drop _).app (lt_replicate (by omega) _)
theorem midP_length {l u : List Nat} (h : l.length % 64 + u.length ≤ 64) : (midP l u).length = 64 := by
  rw [midP, List.length_append, List.length_append, drop_length, zeros_length]; omega
theorem midP_lt {l u : List Nat} (h : Lt 256 l) (hu : Lt 256 u) : Lt 256 (midP l u) := ((h.drop _).app hu).app (lt_replicate (by omega) _)

theorem splice_rest {l u : List Nat} (_h : l.length % 64 + u.length ≤ 64) : splice (restP l) (l.length % 64) u = midP l u := by
  have e := drop_length l
  unfold splice restP midP
  generalize l.drop (64 * (l.length / 64)) = d at *
  rw [List.take_append_of_le_length (by omega), List.take_of_length_le (by omega), List.drop_append, e, List.drop_eq_nil_of_le (by omega)]
  simp [zeros]

theorem len_app {l u : List Nat} (h : l.length % 64 + u.length < 64) : (l ++ u).length / 64 = l.length / 64 ∧ (l ++ u).length % 64 = l.length % 64 + u.length := by
  rw [List.length_append]; omega
theorem len_full {l u : List Nat} (h : l.length % 64 + u.length = 64) : (l ++ u).length / 64 = l.length / 64 + 1 ∧ (l ++ u).length % 64 = 0 := by
  rw [List.length_append]; omega

theorem mid_part {l u : List Nat} (h : l.length % 64 + u.length < 64) : midP l u = restP (l ++ u) ∧ grownP l = grownP (l ++ u) := by
  obtain ⟨e1, e2⟩ := len_app h
  refine ⟨?_, ?_⟩
  · unfold midP restP
    rw [e1, e2, List.drop_append_of_le_length (by omega), Nat.sub_sub]
  · unfold grownP
    rw [e1, growN_app (by omega)]

theorem mid_full {l u : List Nat} (h : l.length % 64 + u.length = 64) : zeros 64 = restP (l ++ u) ∧ foldP (grownP l) (wordsOf (midP l u)) = grownP (l ++ u) := by
  obtain ⟨e1, e2⟩ := len_full h
  refine ⟨?_, ?_⟩
  · unfold restP
    rw [e1, e2, List.drop_eq_nil_of_le (by rw [List.length_append]; omega)]
    rfl
  · unfold grownP
    rw [e1, growN, growN_app (by omega)]
    congr 2
    unfold midP blockAt
    rw [List.drop_append_of_le_length (by omega), List.take_of_length_le (by rw [List.length_append, drop_length]; omega), show 64 - l.length % 64 - u.length = 0 by omega]
    simp [zeros]

/- a text's bytes -/
def nums (s : ByteArray) : List Nat := s.data.toList.map (fun b => b.toNat)
theorem nums_length (s : ByteArray) : (nums s).length = s.size := by
  rw [nums, List.length_map]
  exact Array.length_toList
theorem nums_lt (s : ByteArray) : Lt 256 (nums s) := by
  intro x hx
  simp only [nums, List.mem_map] at hx
  obtain ⟨b, _, rfl⟩ := hx
  exact b.toNat_lt
theorem nums_extract (s : ByteArray) (a b : Nat) : nums (s.extract a b) = ((nums s).drop a).take (b - a) := by
  obtain ⟨⟨l⟩⟩ := s
  rw [nums, nums, ByteArray.extract_mk]
  simp
theorem nums_append (s t : ByteArray) : nums (s ++ t) = nums s ++ nums t := by
  unfold nums
  rw [ByteArray.data_append]
  simp

end Go.Proofs.YtlkkninnfiaedaaDoor.Sh

namespace Go.Proofs.YtlkkninnfiaedaaDoor.Sh
open Go.RowKit
set_option maxRecDepth 100000
attribute [local go_sem] not_any

def scells (g r : List Nat) (n : Nat) : List Value := u32s g ++ (u8s r ++ [.int .u64 (n : Int)])
structure Sums (w : World) (b : Nat) (g r : List Nat) (n : Nat) : Prop where
  row : w.heap[b]? = some (.cells (scells g r n).toArray 105 (0, 0))
  lg : g.length = 8
  lr : r.length = 64

theorem scells_length {g r : List Nat} {n : Nat} (hg : g.length = 8) (hr : r.length = 64) : (scells g r n).length = 73 := by
  simp [scells, u32s, u8s, hg, hr]
theorem scells_one (g r : List Nat) (n : Nat) : ∀ v ∈ scells g r n, v.oneCell' = true := by
  intro v hv
  rcases List.mem_append.1 hv with h | h
  · exact u32s_one _ v h
  · rcases List.mem_append.1 h with h | h
    · exact u8s_one _ v h
    · simp at h; subst h; rfl

theorem Sums.taken {w : World} {b : Nat} {g r : List Nat} {n : Nat} (h : Sums w b g r n) : w.cell? ⟨b, 72, none⟩ = some (.int .u64 (n : Int)) := by
  rw [cell_of_row w b 72 _ 105 (0, 0) h.row]
  have e1 : (u32s g).length = 8 := by simp [u32s, h.lg]
  have e2 : (u8s r).length = 64 := by simp [u8s, h.lr]
  simp only [List.getElem?_toArray]
  rw [scells, List.getElem?_append_right (by omega), e1, List.getElem?_append_right (by omega), e2]
  rfl
theorem Sums.grown {w : World} {b : Nat} {g r : List Nat} {n : Nat} (h : Sums w b g r n) {j : Nat} (hj : j < 8) : w.cell? ⟨b, j, none⟩ = some (.int .u32 (at0 g j : Nat)) := by
  rw [cell_of_row w b j _ 105 (0, 0) h.row]
  have e1 : (u32s g).length = 8 := by simp [u32s, h.lg]
  simp only [List.getElem?_toArray]
  rw [scells, List.getElem?_append_left (by omega), u32s, List.getElem?_map, get_at0 (by rw [h.lg]; exact hj)]
  rfl
theorem Sums.rest {w : World} {b : Nat} {g r : List Nat} {n : Nat} (h : Sums w b g r n) {j : Nat} (hj : j < 64) : w.cell? ⟨b, 8 + j, none⟩ = some (.int .u8 (at0 r j : Nat)) := by
  rw [cell_of_row w b (8 + j) _ 105 (0, 0) h.row]
  have e1 : (u32s g).length = 8 := by simp [u32s, h.lg]
  have e2 : (u8s r).length = 64 := by simp [u8s, h.lr]
  simp only [List.getElem?_toArray]
  rw [scells, List.getElem?_append_right (by omega), e1, List.getElem?_append_left (by omega), u8s, List.getElem?_map, Nat.add_sub_cancel_left, get_at0 (by rw [h.lr]; exact hj)]
  rfl
theorem Sums.free {w : World} {b : Nat} {g r : List Nat} {n : Nat} (h : Sums w b g r n) (j : Nat) : w.frozen? ⟨b, j, none⟩ = false := frozen_of_row w b j _ _ h.row
theorem Sums.lt {w : World} {b : Nat} {g r : List Nat} {n : Nat} (h : Sums w b g r n) : b < w.heap.size := lt_heap h.row
theorem Sums.to {w w' : World} {b : Nat} {g r : List Nat} {n : Nat} (h : Sums w b g r n) (e : w'.heap[b]? = w.heap[b]?) : Sums w' b g r n := ⟨e.trans h.row, h.lg, h.lr⟩

theorem Sums.setTaken {w : World} {b : Nat} {g r : List Nat} {n : Nat} (h : Sums w b g r n) (m : Nat) : Sums (w.setCell ⟨b, 72, none⟩ (.int .u64 (m : Int))) b g r m := by
  refine ⟨?_, h.lg, h.lr⟩
  rw [heap_setCell_same w b 72 _ 105 _ h.row]
  have e1 : (u32s g).length = 8 := by simp [u32s, h.lg]
  have e2 : (u8s r).length = 64 := by simp [u8s, h.lr]
  congr 2
  rw [List.setIfInBounds_toArray]
  congr 1
  rw [scells, List.set_append_right _ _ (by omega), e1, List.set_append_right _ _ (by omega), e2]
  rfl

theorem splice_mid {g r u : List Nat} {n h : Nat} (hg : g.length = 8) (hf : h + u.length ≤ r.length) : splice (scells g r n) (8 + h) (u8s u) = scells g (splice r h u) n := by
  have e1 : (u32s g).length = 8 := by simp [u32s, hg]
  unfold splice scells
  rw [List.take_append, e1, List.take_of_length_le (by omega), Nat.add_sub_cancel_left, List.take_append_of_le_length (by rw [u8s_length]; omega), u8s_length, List.drop_append, e1, List.drop_eq_nil_of_le (by omega), List.nil_append, show 8 + h + u.length - 8 = h + u.length by omega, List.drop_append_of_le_length (by rw [u8s_length]; omega)]
  unfold u8s
  simp

theorem Sums.setRest {w : World} {b : Nat} {g r : List Nat} {n : Nat} (s : Sums w b g r n) {h : Nat} {u : List Nat} (hf : h + u.length ≤ 64) : Sums (w.setRow b (splice (scells g r n) (8 + h) (u8s u)).toArray) b g (splice r h u) n := by
  refine ⟨?_, s.lg, by rw [length_splice _ _ _ (by rw [s.lr]; exact hf), s.lr]⟩
  rw [setRow_heap w b _ _ _ _ s.row, splice_mid s.lg (by rw [s.lr]; exact hf)]

/- a row stored into the middle of another -/
theorem wpList_store_at {P : Program} {ops : Array Oper} {rest : List Oper} {o : Oper} {a : Act} {w : World} {Q : Exit → Act → World → Prop} (hgd : o.guard = none) (ty : TypeId) (x y : Operand) (ho : o.op = .store ty x y)
    (g off : Nat) (hx : a.eval x = .pointer (some ⟨g, off, none⟩)) (cs : List Value) (hy : a.eval y = .agg cs.toArray) (t : TypeId) (cur : List Value) (hg : w.heap[g]? = some (.cells cur.toArray t (0, 0)))
    (hi : (P.info? ty).map (·.size) = some cs.length) (hf : off + cs.length ≤ cur.length) (h1 : ∀ v ∈ cs, v.oneCell' = true) (hdst : o.dst = none)
    (h : wpList P ops Q rest a (w.setRow g (splice cur off cs).toArray)) : wpList P ops Q (o :: rest) a w :=
  wpList_plain hgd fun K hK => by
    have e := run_storeCells_at P g off t cs 0 cur.toArray w hg (by simpa using hf) h1
    have e2 : (storeVar ty ⟨g, off, none⟩ (.agg cs.toArray)).run P w = .ok () (w.setRow g (splice cur off cs).toArray) := by
      cases hq : P.info? ty with
      | none => simp [hq] at hi
      | some i =>
        have hs : cs.length = i.size := by simp [hq] at hi; omega
        simp only [Nat.add_zero] at e
        simp [storeVar, sizeOf, typeInfo, hq, Value.cells, hs, e, splice]
    unfold Oper.wp execOp
    simp only [ho, hx, hy, Instr.storeAt, Instr.sureAddr, Sem.run_bind, Sem.run_pure, Result.andThen_ok, e2]
    have e3 : a.put o.dst undef = a := by rw [hdst]; rfl
    have h' := hK _ _ h
    rw [← e3] at h'
    exact h'

/- bytes copied out of a text, as one step of a region that draws -/
theorem text_cells (s : ByteArray) (n : Nat) : ((s.extract 0 n).data.map fun b => Value.int .u8 b.toNat) = (u8s ((nums s).take n)).toArray := by
  have e := nums_extract s 0 n
  rw [List.drop_zero, Nat.sub_zero] at e
  rw [← e]
  apply Array.ext'
  simp [u8s, nums]
  rfl

theorem step_copy_text {P : Program} {ops : Array Oper} {o : Oper} {a : Act} {w : World} {K : Act → World → Prop} {Q : Exit → Act → World → Prop} {E : Prop} (hgd : o.guard = none) (d s : Operand) (dT sT : TypeId)
    (ho : o.op = .call { callee := .builtin .copy, args := #[d, s], argTypes := #[dT, sT] }) (elem : TypeId) (hu : P.underlying dT = some (.slice elem)) (hsz : (P.info? elem).map (·.size) = some 1)
    (g off dLen dCap : Nat) (str : ByteArray) (hd : a.eval d = .slice (some ⟨g, off, none⟩) dLen dCap) (hs : a.eval s = .string str)
    (cur : List Value) (t : TypeId) (hg : w.heap[g]? = some (.cells cur.toArray t (0, 0))) (n : Nat) (hn : n = min str.size dLen) (hf : off + n ≤ cur.length)
    (h : K (a.put o.dst (goInt n)) (w.setRow g (splice cur off (u8s ((nums str).take n))).toArray)) :
    if Region.wanted o (yielded ops a.tmps) = true then Oper.wp P o a w K Q else E := by
  have hw : Region.wanted o (yielded ops a.tmps) = true := by simp [Region.wanted, hgd]
  rw [if_pos hw]
  have hl : (u8s ((nums str).take n)).length = n := by rw [u8s_length, List.length_take, nums_length]; omega
  have hst := run_storeCells_at P g off t (u8s ((nums str).take n)) 0 cur.toArray w hg (by rw [hl]; simpa using hf) (u8s_one _)
  have hn' : Nat.min str.size dLen = n := hn.symm
  have hc := text_cells str n
  have hrun : (Builtin.copy_ #[dT, sT] o.type #[.slice (some ⟨g, off, none⟩) dLen dCap, .string str]).run P w = .ok (goInt n) (w.setRow g (splice cur off (u8s ((nums str).take n))).toArray) := by
    cases hq : P.info? elem with
    | none => simp [hq] at hsz
    | some i =>
      have hi : i.size = 1 := by simpa [hq] using hsz
      simp only [Nat.add_zero] at hst
      have hfc : (Builtin.firstCells 1 n (.string str)).run P w = .ok (u8s ((nums str).take n)).toArray w := by
        simp only [Builtin.firstCells]
        rw [hc]
        rfl
      simp [Builtin.copy_, run_underlying hu, Builtin.lenOf, hfc, sizeOf, typeInfo, hq, hi, hn', hst, splice]
  unfold Oper.wp
  simp [execOp, ho, resolve, invoke, builtin, hd, hs, hrun, Result.andThen]
  exact h

theorem held_any (b n : Nat) (w : World) (hn : n < 9223372036854775808) (h : w.cell? ⟨b, 72, none⟩ = some (.int .u64 (n : Int))) :
    Calls Tryd.prog 73 #[.pointer (some ⟨b, 0, none⟩)] w fun e w' => e = .returned (.int .i64 (n % 64 : Nat)) ∧ w' = w := by
  go_enter Tryd.func73, Tryd.ntmps73
  go_wp2
  go_ret
  exact ⟨rfl, rfl⟩

end Go.Proofs.YtlkkninnfiaedaaDoor.Sh
