/- Words in memory; a tape in memory; isNone, At, Left, New; R.Nums. -/
import Derived.Test.YtdkakodlkbkhnaaDoorD
import Derived.BigQuiet
import Derived.BigRegion
import Derived.Laws.Rows
import Derived.Laws.CopyOwn
import Derived.Deep.WholeRow
import Derived.Deep.RegionHeld3
import Derived.Deep.Cut
import Derived.Deep.CutBlock
import Derived.Deep.DeepCutAuto
namespace Go.Proofs.YtdkakodlkbkhnaaDoor
open Go.RowKit
set_option maxRecDepth 100000
attribute [local go_sem] not_any mf_any

def at0 (l : List Nat) (i : Nat) : Nat := l[i]?.getD 0
theorem at0_get {l : List Nat} {i x : Nat} (h : l[i]? = some x) : at0 l i = x := by simp [at0, h]
theorem get_at0 {l : List Nat} {i : Nat} (h : i < l.length) : l[i]? = some (at0 l i) := by
  simp [at0, List.getElem?_eq_getElem h]

def u64s (ws : List Nat) : List Value := ws.map (fun n : Nat => Value.int .u64 (n : Int))
def wrow (ws : List Nat) : Obj := .cells (u64s ws).toArray 44 (0, 0)
def Small (ws : List Nat) : Prop := ∀ (j x : Nat), ws[j]? = some x → x < 18446744073709551616
theorem u64s_length (l : List Nat) : (u64s l).length = l.length := by simp [u64s]
theorem u64s_one (l : List Nat) : ∀ v ∈ u64s l, v.oneCell' = true := by
  intro v hv
  obtain ⟨n, _, rfl⟩ := List.mem_map.1 hv
  rfl
theorem Small.at0 {ws : List Nat} (h : Small ws) (k : Nat) : at0 ws k < 18446744073709551616 := by
  unfold YtdkakodlkbkhnaaDoor.at0
  cases hk : ws[k]? with
  | none => simp
  | some x => exact h k x hk

theorem ltc {w : World} {p : Addr} {v : Value} (h : w.cell? p = some v) : p.block < w.heap.size := by
  rcases Nat.lt_or_ge p.block w.heap.size with h1 | h1
  · exact h1
  · have : w.heap[p.block]? = none := Array.getElem?_eq_none h1
    simp [World.cell?, this] at h

theorem row_cell {w : World} {g j x : Nat} {ws : List Nat} (h : w.heap[g]? = some (wrow ws)) (hj : ws[j]? = some x) : w.cell? ⟨g, j, none⟩ = some (.int .u64 (x : Int)) := by
  rw [cell_of_row w g j _ 44 (0, 0) h]
  simp [u64s, hj]

/- words in memory, to be read -/
structure Nl (w : World) (m : Nat) (a : Option Addr) (ws : List Nat) : Prop where
  len : ws.length = m
  at' : ∀ (j : Nat) (x : Nat), ws[j]? = some x → ∃ g o, a = some ⟨g, o, none⟩ ∧ w.cell? ⟨g, o + j, none⟩ = some (.int .u64 (x : Int))

theorem Nl.below {B : Nat} {w w' : World} {m : Nat} {a : Option Addr} {ws : List Nat} (h : Nl w m a ws) (hB : Below B w w') (hs : w.heap.size ≤ B) : Nl w' m a ws :=
  ⟨h.len, fun j x hj => by
    obtain ⟨g, o, h1, h2⟩ := h.at' j x hj
    exact ⟨g, o, h1, (hB.cell (p := ⟨g, o + j, none⟩) (by have := ltc h2; simp at this ⊢; omega)).trans h2⟩⟩
theorem Nl.next {w w' : World} {m : Nat} {a : Option Addr} {ws : List Nat} (h : Nl w m a ws) (hB : Below w.heap.size w w') : Nl w' m a ws := h.below hB (Nat.le_refl _)
theorem Nl.drewN {w : World} {m : Nat} {a : Option Addr} {ws : List Nat} (h : Nl w m a ws) (q : Nat) : Nl (w.drewN q) m a ws := ⟨h.len, h.at'⟩
theorem Nl.nil (w : World) (a : Option Addr) : Nl w 0 a [] := ⟨rfl, fun j x h => by simp at h⟩
theorem nl_row {w : World} {g : Nat} {ws : List Nat} (h : w.heap[g]? = some (wrow ws)) : Nl w ws.length (some ⟨g, 0, none⟩) ws :=
  ⟨rfl, fun j x hj => ⟨g, 0, rfl, by rw [Nat.zero_add]; exact row_cell h hj⟩⟩
theorem Nl.val {w : World} {m : Nat} {a : Option Addr} {ws : List Nat} (h : Nl w m a ws) {k : Nat} (hk : k < m) : ∃ g o, a = some ⟨g, o, none⟩ ∧ w.cell? ⟨g, o + k, none⟩ = some (.int .u64 (at0 ws k : Nat)) := by
  obtain ⟨x, hx⟩ : ∃ x, ws[k]? = some x := ⟨_, List.getElem?_eq_getElem (by rw [h.len]; exact hk)⟩
  obtain ⟨g, o, h1, h2⟩ := h.at' k x hx
  exact ⟨g, o, h1, by rw [at0_get hx]; exact h2⟩

theorem info_of {P : Program} {t : TypeId} {z : Value} {s b : Nat} (h : (P.info? t).map (fun i => (i.zero, i.size, i.bytes)) = some (some z, s, b)) : ∃ i, P.info? t = some i ∧ i.zero = some z ∧ i.size = s ∧ i.bytes = b := by
  cases hq : P.info? t with
  | none => simp [hq] at h
  | some i =>
    simp [hq] at h
    exact ⟨i, rfl, h.1, h.2.1, h.2.2⟩
theorem info44 : (Tryd.prog.info? 44).map (fun i => (i.zero, i.size, i.bytes)) = some (some (.int .u64 0), 1, 8) := by kernel_rfl
theorem size44 : (Tryd.prog.info? 44).map (·.size) = some 1 := by kernel_rfl
def zeros (n : Nat) : List Nat := List.replicate n 0
theorem make_words (m : Nat) (hm : m ≤ 4194304) (w : World) : (Instr.makeSlice 22 (.int .i64 (m : Int)) (.int .i64 (m : Int))).run Tryd.prog w = .ok (.slice (some ⟨w.heap.size, 0, none⟩) m m) (w.alloc (wrow (zeros m))) := by
  obtain ⟨i0, hi, hz0, hz1, hz2⟩ := info_of info44
  have h := run_make (P := Tryd.prog) w 22 44 i0 _ Tryd.underlying22 hi hz0 .i64 .i64 (m : Int) (m : Int) (by omega) (by omega) (by rw [hz2]; omega) (by omega)
  rw [h, hz1]
  have e : madeCells (Value.int IntKind.u64 0).cells ((m : Int).toNat * 1) = (u64s (zeros m)).toArray := by
    apply Array.ext
    · simp [madeCells, u64s, zeros]
    · intro j h1 h2
      simp [madeCells, u64s, Value.cells, Nat.mod_one, zeros]
  rw [e]
  rfl

set_option maxHeartbeats 2000000 in
theorem nums_any (w : World) (m c c' : Nat) (a b : Option Addr) (xs : List Nat) (ha : Nl w m a xs) (hb : Nl w m b xs) (hm : m ≤ 1048576) :
    Calls Tryd.prog 11 #[.slice a m c, .slice b m c'] w fun e w' => e = .returned (.bool true) ∧ ∃ q, w' = w.drewN q := by
  have HA := hide1 ha
  have HB := hide1 hb
  clear ha hb
  have h' : ((m : Int) != (m : Int)) = false := by simp
  go_enter Tryd.func11, Tryd.ntmps11
  go_wp2
  go_loopw [5] (fun i wr => ∃ k q : Nat, k ≤ m ∧ i = .int .i64 k ∧ wr = w.drewN q) (fun i _ => m - (intOf i).toNat)
  case atStart => exact ⟨0, 0, Nat.zero_le _, rfl, rfl⟩
  case round =>
    obtain ⟨k, q, hk, rfl, rfl⟩ := hrel
    by_cases hlt : k < m
    · obtain ⟨ga, oa, rfl, hca⟩ := (HA.out.drewN q).val hlt
      obtain ⟨gb, ob, rfl, hcb⟩ := (HB.out.drewN q).val hlt
      obtain ⟨x, hx⟩ : ∃ x, x = at0 xs k := ⟨_, rfl⟩
      rw [← hx] at hca hcb
      obtain ⟨W, hW⟩ : ∃ W, w.drewN q = W := ⟨_, rfl⟩
      rw [hW] at hca hcb
      rw [hW]
      have HW := hide1 hW
      clear hx hW
      have h2 : ((x : Int) != (x : Int)) = false := by simp
      go_wp2
      go_quiet (fail)
      go_wp2
      exact ⟨⟨k + 1, q + nq, by omega, by go_num, by rw [← HW.out]; exact World.drewN_drewN _ _ _⟩, by simp [intOf]; omega⟩
    · have : k = m := by omega
      subst this
      go_wp2
      go_ret
      exact ⟨rfl, q, rfl⟩

/- a tape: its cells -/
structure Tp (w : World) (t b k L : Nat) : Prop where
  box : w.heap[t]? = some (.cells #[.bool true, .slice (some ⟨b, 0, none⟩) L L, .int .i64 (k : Int)] 46 (0, 0))
  le : k ≤ L

theorem Tp.c0 {w : World} {t b k L : Nat} (h : Tp w t b k L) : w.cell? ⟨t, 0, none⟩ = some (.bool true) := by simp [World.cell?, h.box]
theorem Tp.c1 {w : World} {t b k L : Nat} (h : Tp w t b k L) : w.cell? ⟨t, 1, none⟩ = some (.slice (some ⟨b, 0, none⟩) L L) := by simp [World.cell?, h.box]
theorem Tp.c2 {w : World} {t b k L : Nat} (h : Tp w t b k L) : w.cell? ⟨t, 2, none⟩ = some (.int .i64 (k : Int)) := by simp [World.cell?, h.box]
theorem Tp.free {w : World} {t b k L : Nat} (h : Tp w t b k L) (j : Nat) : w.frozen? ⟨t, j, none⟩ = false := by simp [World.frozen?, h.box]
theorem Tp.lt {w : World} {t b k L : Nat} (h : Tp w t b k L) : t < w.heap.size := lt_of_heap h.box
theorem Tp.to {w w' : World} {t b k L : Nat} (h : Tp w t b k L) (hb : w'.heap[t]? = w.heap[t]?) : Tp w' t b k L := ⟨hb.trans h.box, h.le⟩
theorem Tp.below {w w' : World} {t b k L B : Nat} (h : Tp w t b k L) (hB : Below B w w') (ht : t < B) : Tp w' t b k L := h.to (hB.block t ht)
theorem Tp.drewN {w : World} {t b k L : Nat} (h : Tp w t b k L) (q : Nat) : Tp (w.drewN q) t b k L := ⟨h.box, h.le⟩
theorem Tp.drew {w : World} {t b k L : Nat} (h : Tp w t b k L) : Tp w.drew t b k L := ⟨h.box, h.le⟩
theorem Tp.set {w : World} {t b k L : Nat} (h : Tp w t b k L) {k' : Nat} (hk : k' ≤ L) : Tp (w.setCell ⟨t, 2, none⟩ (.int .i64 (k' : Int))) t b k' L :=
  ⟨by rw [heap_setCell_same w t 2 _ 46 _ h.box]; rfl, hk⟩

set_option maxHeartbeats 400000 in
theorem isNone_no (t b k L : Nat) (w : World) (h : Tp w t b k L) : Calls Tryd.prog 25 #[.pointer (some ⟨t, 0, none⟩)] w fun e w' => e = .returned (.bool false) ∧ w' = w := by
  have h0 := h.c0
  clear h
  go_enter Tryd.func25, Tryd.ntmps25
  go_wp2
  go_ret
  exact ⟨rfl, rfl⟩

/- no tape: nil, or one that no call made -/
def No (w : World) (v : Value) : Prop := v = .pointer none ∨ ∃ t, v = .pointer (some ⟨t, 0, none⟩) ∧ w.cell? ⟨t, 0, none⟩ = some (.bool false)

theorem isNone_yes (v : Value) (w : World) (h : No w v) : Calls Tryd.prog 25 #[v] w fun e w' => e = .returned (.bool true) ∧ w' = w := by
  rcases h with rfl | ⟨t, rfl, h0⟩
  · go_enter Tryd.func25, Tryd.ntmps25
    go_wp2
    go_ret
    exact ⟨rfl, rfl⟩
  · go_enter Tryd.func25, Tryd.ntmps25
    go_wp2
    go_ret
    exact ⟨rfl, rfl⟩

set_option maxHeartbeats 400000 in
theorem at_any (t b k L : Nat) (w : World) (h : Tp w t b k L) : Calls Tryd.prog 12 #[.pointer (some ⟨t, 0, none⟩)] w fun e w' => e = .returned (.int .i64 (k : Int)) ∧ w' = w := by
  have H := hide1 (isNone_no t b k L w h)
  have h2 := h.c2
  clear h
  go_enter Tryd.func12, Tryd.ntmps12
  go_wp2_with fail
  refine H.out.mono ?_
  rintro e w' ⟨rfl, rfl⟩
  go_wp2
  go_ret
  exact ⟨rfl, rfl⟩

set_option maxHeartbeats 400000 in
theorem at_no (v : Value) (w : World) (h : No w v) : Calls Tryd.prog 12 #[v] w fun e w' => e = .returned (.int .i64 0) ∧ w' = w := by
  have H := hide1 (isNone_yes v w h)
  clear h
  go_enter Tryd.func12, Tryd.ntmps12
  go_wp2_with fail
  refine H.out.mono ?_
  rintro e w' ⟨rfl, rfl⟩
  go_wp2
  go_ret
  exact ⟨rfl, rfl⟩

set_option maxHeartbeats 400000 in
theorem left_no (v : Value) (w : World) (h : No w v) : Calls Tryd.prog 13 #[v] w fun e w' => e = .returned (.int .i64 0) ∧ w' = w := by
  have H := hide1 (isNone_yes v w h)
  clear h
  go_enter Tryd.func13, Tryd.ntmps13
  go_wp2_with fail
  refine H.out.mono ?_
  rintro e w' ⟨rfl, rfl⟩
  go_wp2
  go_ret
  exact ⟨rfl, rfl⟩

set_option maxHeartbeats 1000000 in
theorem left_any (t b k L : Nat) (w : World) (h : Tp w t b k L) (hL : L ≤ 1048576) : Calls Tryd.prog 13 #[.pointer (some ⟨t, 0, none⟩)] w fun e w' => e = .returned (.int .i64 ((L - k : Nat) : Int)) ∧ ∃ q, w' = w.drewN q := by
  have H := hide1 (isNone_no t b k L w h)
  have h1 := h.c1
  have h2 := h.c2
  obtain ⟨r, hr⟩ : ∃ r, r = L - k := ⟨_, rfl⟩
  have hw : IntKind.i64.wrap ((L : Int) - (k : Int)) = (r : Int) := by rw [IntKind.wrap_i64]; have := h.le; omega
  rw [← hr]
  clear h hr
  go_enter Tryd.func13, Tryd.ntmps13
  go_wp2_with fail
  refine H.out.mono ?_
  rintro e w' ⟨rfl, hw'⟩
  cases hw'
  go_wp2
  go_quiet (fail)
  go_wp2
  go_ret
  exact ⟨rfl, nq, rfl⟩

end Go.Proofs.YtdkakodlkbkhnaaDoor
