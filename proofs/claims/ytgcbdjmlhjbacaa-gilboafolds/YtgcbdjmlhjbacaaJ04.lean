/- Numbers in memory: lists that are read, rows that are made; Fits, R.Nums. -/
import Derived.Test.YtgcbdjmlhjbacaaJ03
import Derived.Below
namespace Go.Proofs.Ytgcbdjmlhjbacaa.Ri
open Go.RowKit
set_option maxRecDepth 100000
attribute [local go_sem] not_any mf_any

def u64s (ws : List Nat) : List Value := ws.map (fun n : Nat => Value.int .u64 (n : Int))
def wrow (ws : List Nat) : Obj := .cells (u64s ws).toArray 44 (0, 0)

theorem lt_heap {w : World} {k : Nat} {o : Obj} (h : w.heap[k]? = some o) : k < w.heap.size := (Array.getElem?_eq_some_iff.1 h).1
theorem lt_cell {w : World} {p : Addr} {v : Value} (h : w.cell? p = some v) : p.block < w.heap.size := by
  rcases Nat.lt_or_ge p.block w.heap.size with h1 | h1
  · exact h1
  · have : w.heap[p.block]? = none := Array.getElem?_eq_none h1
    simp [World.cell?, this] at h

theorem row_cell {w : World} {g j x : Nat} {ws : List Nat} (h : w.heap[g]? = some (wrow ws)) (hj : ws[j]? = some x) : w.cell? ⟨g, j, none⟩ = some (.int .u64 (x : Int)) := by
  rw [cell_of_row w g j _ 44 (0, 0) h]
  simp [u64s, hj]

/- words in memory, to be read -/
structure Nl (w : World) (m : Nat) (a : Option Addr) (ws : List Nat) : Prop where
  len : ws.length = m
  at' : ∀ (j : Nat) (x : Nat), ws[j]? = some x → ∃ g o, a = some ⟨g, o, none⟩ ∧ w.cell? ⟨g, o + j, none⟩ = some (.int .u64 (x : Int))

theorem Nl.below {B : Nat} {w w' : World} {m : Nat} {a : Option Addr} {ws : List Nat} (h : Nl w m a ws) (hB : Below B w w') (hs : w.heap.size ≤ B) : Nl w' m a ws :=
  ⟨h.len, fun j x hj => by
    obtain ⟨g, o, h1, h2⟩ := h.at' j x hj
    exact ⟨g, o, h1, (hB.cell (p := ⟨g, o + j, none⟩) (by have := lt_cell h2; simp at this ⊢; omega)).trans h2⟩⟩

theorem Nl.alloc {w : World} {m : Nat} {a : Option Addr} {ws : List Nat} (h : Nl w m a ws) (o : Obj) : Nl (w.alloc o) m a ws :=
  h.below (B := w.heap.size) ((Below.refl _ _).alloc (Nat.le_refl _) _) (Nat.le_refl _)

theorem Nl.drewN {w : World} {m : Nat} {a : Option Addr} {ws : List Nat} (h : Nl w m a ws) (q : Nat) : Nl (w.drewN q) m a ws := ⟨h.len, h.at'⟩

theorem nl_row {w : World} {g : Nat} {ws : List Nat} (h : w.heap[g]? = some (wrow ws)) : Nl w ws.length (some ⟨g, 0, none⟩) ws :=
  ⟨rfl, fun j x hj => ⟨g, 0, rfl, by rw [Nat.zero_add]; exact row_cell h hj⟩⟩

theorem Nl.get {w : World} {m : Nat} {a : Option Addr} {ws : List Nat} (h : Nl w m a ws) {k : Nat} (hk : k < m) : ∃ x g o, ws[k]? = some x ∧ a = some ⟨g, o, none⟩ ∧ ∀ q, (w.drewN q).cell? ⟨g, o + k, none⟩ = some (.int .u64 (x : Int)) := by
  obtain ⟨x, hx⟩ : ∃ x, ws[k]? = some x := ⟨_, List.getElem?_eq_getElem (by rw [h.len]; exact hk)⟩
  obtain ⟨g, o, h1, h2⟩ := h.at' k x hx
  exact ⟨x, g, o, hx, h1, fun _ => h2⟩

def Small (ws : List Nat) : Prop := ∀ (j x : Nat), ws[j]? = some x → x < 18446744073709551616

/- the numbers of the first k places are as they should -/
def fitsAll (l : Int) (ws : List Nat) : Bool := decide (∀ x ∈ ws, fit l x = x)

theorem fits_take {l : Int} {ws : List Nat} {k x : Nat} (h : ∀ y ∈ ws.take k, fit l y = y) (hx : ws[k]? = some x) (hf : fit l x = x) : ∀ y ∈ ws.take (k + 1), fit l y = y := by
  intro y hy
  rw [List.take_add_one, hx] at hy
  simp at hy
  rcases hy with hy | rfl
  · exact h y hy
  · exact hf

set_option maxHeartbeats 1000000 in
theorem fits_any (l : Int) (w : World) (m c : Nat) (a : Option Addr) (ws : List Nat) (ha : Nl w m a ws) (hs : Small ws) (hm : m ≤ 4194304) :
    Calls Try.prog 38 #[.int .i64 l, .slice a m c] w fun e w' => e = .returned (.bool (fitsAll l ws)) ∧ ∃ q, w' = w.drewN q := by
  have HA := hide1 ha
  have HS := hide1 hs
  clear ha hs
  go_enter Try.func38, Try.ntmps38
  go_wp2
  go_loopw [8] (fun i wr => ∃ k q : Nat, k ≤ m ∧ i = .int .i64 k ∧ (∀ x ∈ ws.take k, fit l x = x) ∧ wr = w.drewN q) (fun i _ => m - (intOf i).toNat)
  case atStart => exact ⟨0, 0, Nat.zero_le _, rfl, by simp, rfl⟩
  case round =>
    obtain ⟨k, q, hk, rfl, hE, rfl⟩ := hrel
    by_cases hlt : k < m
    · obtain ⟨x, g, o, hx, rfl, hcc⟩ := HA.out.get hlt
      have hc := hcc q
      have hF := fun w => hide1 (fit_any l x w (HS.out k x hx))
      have HE := hide1 hE
      have HX := hide1 hx
      obtain ⟨W, hW⟩ : ∃ W, w.drewN q = W := ⟨_, rfl⟩
      rw [hW] at hc
      rw [hW]
      have HW := hide1 hW
      clear hcc hE hx hW
      by_cases hxy : fit l x = x
      · rw [hxy] at hF
        have h2 : ((x : Int) != (x : Int)) = false := by simp
        have HH := hide1 hxy
        clear hxy
        go_wp2
        go_quiet (first | (go_at_call 45; exact Calls.quiet_of_same (hF _).out))
        go_wp2
        go_roundw
        case rel => exact ⟨k + 1, q + nq, by omega, by go_num, fits_take HE.out HX.out HH.out, by rw [← HW.out]; exact World.drewN_drewN _ _ _⟩
        case measure => simp [intOf]; omega
      · obtain ⟨y, hy⟩ : ∃ y, y = fit l x := ⟨_, rfl⟩
        rw [← hy] at hF hxy
        have HY := hide1 hy
        clear hy
        have h2 : ((y : Int) != (x : Int)) = true := by rw [bne_iff_ne]; omega
        go_wp2
        go_quiet (first | (go_at_call 45; exact Calls.quiet_of_same (hF _).out))
        go_wp2
        go_ret
        refine ⟨?_, q + nq, by rw [← HW.out]; exact World.drewN_drewN _ _ _⟩
        have : fitsAll l ws = false := by
          apply decide_eq_false
          intro h
          exact hxy (HY.out.trans (h x (List.mem_of_getElem? HX.out)))
        rw [this]
        rfl
    · have : k = m := by omega
      subst this
      go_wp2
      go_ret
      refine ⟨?_, q, rfl⟩
      rw [List.take_of_length_le (by rw [HA.out.len]; omega)] at hE
      have : fitsAll l ws = true := decide_eq_true hE
      rw [this]
      rfl

end Go.Proofs.Ytgcbdjmlhjbacaa.Ri
