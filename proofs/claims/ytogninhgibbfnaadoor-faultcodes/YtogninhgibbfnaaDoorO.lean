/- The document's list of nodes, as the statement's own text makes it. -/
import Derived.Test.YtogninhgibbfnaaDoorL
import Derived.Test.YtogninhgibbfnaaDoorE
namespace Go.Proofs.YtogninhgibbfnaaDoor
open Go.RowKit Go.Shelf
set_option maxRecDepth 100000

theorem info57 : (Tryd.prog.info? 57).map (fun i => (i.zero, i.size, i.bytes)) = some (some (.agg #[.int .i64 0, .int .i64 0, .string ⟨#[]⟩, .int .i64 0, .int .i64 0]), 5, 48) := by kernel_rfl

/- a slice that reads as these rows -/
def RowsAt (W : World) (v : Value) (l : List Rw) : Prop :=
  ∃ a cap, v = .slice a l.length cap ∧ ∀ k r, l[k]? = some r → ∃ g o, a = some ⟨g, o, none⟩ ∧
    W.cell? ⟨g, o + k * 5, none⟩ = some (.int .i64 r.kind) ∧ W.cell? ⟨g, o + k * 5 + 1, none⟩ = some (.int .i64 r.code) ∧ W.cell? ⟨g, o + k * 5 + 2, none⟩ = some (.string r.wh) ∧
    W.cell? ⟨g, o + k * 5 + 3, none⟩ = some (.int .i64 r.a) ∧ W.cell? ⟨g, o + k * 5 + 4, none⟩ = some (.int .i64 r.b)

theorem rowsAt_own {W : World} {base : Nat} {v : Value} {l : List Rw} (h : W.ownsRow base 57 5 v l.length (rowsOf l)) : RowsAt W v l := by
  have hc := fun g => h.cells (g := g)
  rcases h.2 with ⟨rfl, h0⟩ | ⟨g, cap, cur, rfl, _⟩
  · refine ⟨none, 0, by rw [h0], fun j s hj => ?_⟩
    have : l = [] := by simpa using h0
    subst this
    simp at hj
  · refine ⟨_, cap, rfl, fun k r hk => ⟨g, 0, rfl, ?_⟩⟩
    have key : ∀ j u, j < 5 → (rwCells r)[j]? = some u → W.cell? ⟨g, 0 + k * 5 + j, none⟩ = some u := fun j u hj hu => by
      have := hc g rfl (k * 5 + j) u ((rowsOf_get l k r hk j hj).trans hu)
      rw [addr_add] at this
      simpa using this
    exact ⟨key 0 _ (by omega) rfl, key 1 _ (by omega) rfl, key 2 _ (by omega) rfl, key 3 _ (by omega) rfl, key 4 _ (by omega) rfl⟩

set_option maxHeartbeats 400000 in
theorem at_calls (a : Option Addr) (n cap : Nat) (_hn : n ≤ 1000000) (x : Int) (W : World) :
    Calls Tryd.prog 27 #[.slice a n cap, .int .i64 x] W fun e w' => e = .returned (.int .i64 (atI n x)) ∧ w' = W := by
  by_cases h : x < 0
  · have hx : atI n x = -1 := by simp [atI, h]
    rw [hx]
    go_enter Tryd.func27, Tryd.ntmps27
    go_wp2
    go_ret
    exact ⟨rfl, rfl⟩
  · by_cases h2 : (n : Int) ≤ x
    · have hx : atI n x = -1 := by simp [atI, h2]
      rw [hx]
      go_enter Tryd.func27, Tryd.ntmps27
      go_wp2
      go_ret
      exact ⟨rfl, rfl⟩
    · have hx : atI n x = x := by simp [atI, h, h2]
      rw [hx]
      go_enter Tryd.func27, Tryd.ntmps27
      go_wp2
      go_ret
      exact ⟨rfl, rfl⟩

set_option maxHeartbeats 400000 in
theorem kind_calls (v : Value) (l : List Rw) (_hl : l.length ≤ 1000000) (x : Int) (W : World) (hv : RowsAt W v l) :
    Calls Tryd.prog 28 #[v, .int .i64 x] W fun e w' => e = .returned (.int .i64 (kindI l x)) ∧ w' = W := by
  obtain ⟨a, cap, rfl, hr⟩ := hv
  have HR := hide1 hr
  clear hr
  by_cases h : x < 0
  · have hx : kindI l x = 0 := by simp [kindI, look, h]
    rw [hx]
    go_enter Tryd.func28, Tryd.ntmps28
    go_wp2
    go_ret
    exact ⟨rfl, rfl⟩
  · by_cases h2 : (l.length : Int) ≤ x
    · have hx : kindI l x = 0 := by simp [kindI, look, h, List.getElem?_eq_none (show l.length ≤ x.toNat by omega)]
      rw [hx]
      go_enter Tryd.func28, Tryd.ntmps28
      go_wp2
      go_ret
      exact ⟨rfl, rfl⟩
    · obtain ⟨k, rfl⟩ : ∃ k : Nat, x = k := ⟨x.toNat, by omega⟩
      have hk : k < l.length := by omega
      obtain ⟨g, o, rfl, hc, _⟩ := HR.out k l[k] (List.getElem?_eq_getElem hk)
      have hx : kindI l (k : Int) = l[k].kind := by simp [kindI, look, hk, h]
      rw [hx]
      go_enter Tryd.func28, Tryd.ntmps28
      go_wp2
      go_ret
      exact ⟨rfl, rfl⟩

end Go.Proofs.YtogninhgibbfnaaDoor
