/- The document's In: Take. -/
import Derived.Test.YtjingknkjokldaaVn
namespace Go.Proofs.Ytjingknkjokldaa
open Go.RowKit
set_option maxRecDepth 100000
attribute [local go_sem] not_any

theorem results_three {fn : Func} {p u z : Tmp} {ty : TypeId} (h : fn.results = #[.cell p ty, .tmp u, .tmp z]) (tmps : Array Value) (P : Program) (w : World) :
    (results fn tmps).run P w =
      ((asAddr (tmps.getD p undef)).run P w).andThen fun a w1 => ((loadVar ty a).run P w1).andThen fun v w2 => .ok (.tuple #[v, tmps.getD u undef, tmps.getD z undef]) w2 := by
  simp only [results, h]
  simp [Sem.run_bind, Result.andThen]
theorem ret_i3 {fn : Func} {p u z : Tmp} (h : fn.results = #[.cell p 53, .tmp u, .tmp z]) {R : Ending → World → Prop} {a : Act} {w : World} (g : Nat) (x y v v2 : Value) (hp : a.tmps.getD p undef = .pointer (some ⟨g, 0, none⟩))
    (hu : a.tmps.getD u undef = v) (hz : a.tmps.getD z undef = v2) (hg : w.heap[g]? = some (.cells #[x, y] 53 (0, 0))) (hd : a.defers = []) (hR : R (.returned (.tuple #[.agg #[x, y], v, v2])) w) : bodyPost Try.prog fn R .ret a w := by
  refine bodyPost_ret_by (v := .tuple #[.agg #[x, y], v, v2]) ?_ hd hR
  have hl := run_loadVar_row (P := Try.prog) w g 53 53 #[x, y] (0, 0) _ hg Try.underlying53 rfl (by kernel_rfl)
  rw [results_three h, hp, hu, hz]
  simp [asAddr, hl, Result.andThen]
theorem two_new (w : World) (a b : Obj) : ((w.alloc a).alloc b).heap[w.heap.size]? = some a ∧ ((w.alloc a).alloc b).heap[w.heap.size + 1]? = some b := by
  have s1 : (w.alloc a).heap.size = w.heap.size + 1 := by simp
  exact ⟨by rw [Below.heap_alloc _ _ _ (by simp), heap_alloc_new], by rw [← s1, heap_alloc_new]⟩
theorem below2 {w : World} (a b : Obj) : Below w.heap.size w ((w.alloc a).alloc b) := (below1 a).alloc (by simp) _

/- what is wrong, with the In as it was -/
theorem rtake_old (a q : Nat) (u1 : Option Addr) (n c : Nat) (b : ByteArray) (w : World) (hq : q < a + 1) :
    Calls Try.prog 21 #[.agg #[.int .i64 ((a + 1 : Nat) : Int), .slice u1 n c], .int .i64 (q : Int), .string b] w fun e w' => e = .returned (.tuple #[.agg #[.int .i64 ((a + 1 : Nat) : Int), .slice u1 n c], .slice none 0 0, .int .i64 21]) ∧ Below w.heap.size w w' := by
  have g1 : (q : Int) < ((a + 1 : Nat) : Int) := by omega
  go_enter Try.func21, Try.ntmps21
  go_wp2
  exact ret_i3 Try.results21 (w.heap.size + 1) _ _ _ _ rfl rfl rfl (two_new _ _ _).2 rfl ⟨rfl, below2 _ _⟩
theorem rtake_far (a q : Nat) (u1 : Option Addr) (n c : Nat) (b : ByteArray) (w : World) (hq : a + 17 ≤ q) (hq2 : q < 4294967296) :
    Calls Try.prog 21 #[.agg #[.int .i64 ((a + 1 : Nat) : Int), .slice u1 n c], .int .i64 (q : Int), .string b] w fun e w' => e = .returned (.tuple #[.agg #[.int .i64 ((a + 1 : Nat) : Int), .slice u1 n c], .slice none 0 0, .int .i64 23]) ∧ Below w.heap.size w w' := by
  have g1 : ¬ (q : Int) < ((a + 1 : Nat) : Int) := by omega
  have g2 : (16 : Int) ≤ (q : Int) - ((a + 1 : Nat) : Int) := by omega
  go_enter Try.func21, Try.ntmps21
  go_wp2
  exact ret_i3 Try.results21 (w.heap.size + 1) _ _ _ _ rfl rfl rfl (two_new _ _ _).2 rfl ⟨rfl, below2 _ _⟩

end Go.Proofs.Ytjingknkjokldaa
