/- Words turned by Go's RotateLeft32 and by the document's left; Quarter; the example 'awake'; rows of words and bytes in memory. -/
import Derived.Test.YtdmodknjcdkocaaRows
import Derived.Test.YtdmodknjcdkocaaJ00
import Derived.WalkKit
import Derived.WalkSpells
import Derived.WalkLawsBesides
import Derived.Below
import Derived.Deep.QuietTactic
import Derived.BigQuiet
import Derived.BigRegion
import Derived.Laws.Rows
import Derived.Laws.Tables
import Derived.Deep.WholeRow
namespace Go.Proofs.Ytdmodknjcdkocaa.Pg
open Go.RowKit
set_option maxRecDepth 100000

theorem hide1 {p : Prop} (h : p) : Hid p := h
structure Shy (p : Prop) : Prop where
  out : p
theorem not_any (x : Bool) (w : World) : (Op.unary .not (.bool x)).run Try.prog w = .ok (.bool (!x)) w := rfl
attribute [local go_sem] not_any

theorem wrap32 (x : Nat) : IntKind.u32.wrap (x : Int) = ((x % 4294967296 : Nat) : Int) := by
  rw [IntKind.wrap_u32]
  omega
theorem wrap32_add (x y : Nat) : IntKind.u32.wrap ((x : Int) + (y : Int)) = (((x + y) % 4294967296 : Nat) : Int) := by
  rw [← Int.natCast_add, wrap32]
theorem sum_int (x y : Nat) : ((x : Int) + (y : Int)) % 4294967296 = (((x + y) % 4294967296 : Nat) : Int) := by omega
theorem wrap32_sub (x y : Nat) (hy : y < 4294967296) : IntKind.u32.wrap ((x : Int) - (y : Int)) = (((x + (4294967296 - y)) % 4294967296 : Nat) : Int) := by
  rw [IntKind.wrap_u32]
  omega
theorem ret_int {k : IntKind} {a b : Int} (h : a = b) : Ending.returned (.int k a) = .returned (.int k b) := by rw [h]

theorem pos_and : ∀ n : Nat, n < 32 → bits .and .u64 (n : Int) 31 = (n : Int) := by decide +kernel

theorem rot_int {x n : Nat} (hx : x < 4294967296) : bits .or .u32 ((x : Int) * 2 ^ n % 4294967296) ((x : Int) / 2 ^ (32 - n)) = ((rotl n x : Nat) : Int) := by
  have e1 : (x : Int) * 2 ^ n % 4294967296 = ((x * 2 ^ n % 4294967296 : Nat) : Int) := by
    rw [Int.natCast_emod, Int.natCast_mul, Int.natCast_pow]; rfl
  have e2 : (x : Int) / 2 ^ (32 - n) = ((x / 2 ^ (32 - n) : Nat) : Int) := by
    rw [Int.natCast_ediv, Int.natCast_pow]; rfl
  rw [e1, e2, u32_or_nat _ _ (Nat.mod_lt _ (by omega)) (Nat.lt_of_le_of_lt (Nat.div_le_self _ _) hx)]
  rfl

theorem rl_any (x n : Nat) (w : World) (h1 : 1 ≤ n) (h2 : n ≤ 31) (hx : x < 4294967296) :
    Calls Try.prog 72 #[.int .u32 (x : Int), .int .i64 (n : Int)] w fun e w' => e = .returned (.int .u32 (rotl n x : Nat)) ∧ w' = w := by
  have e1 := pos_and n (by omega)
  go_enter Try.func72, Try.ntmps72
  go_wp2
  go_ret
  exact ⟨ret_int (rot_int hx), rfl⟩

theorem rl_i (x : Nat) (m : Int) (w : World) (h1 : 1 ≤ m) (h2 : m ≤ 31) (hx : x < 4294967296) :
    Calls Try.prog 72 #[.int .u32 (x : Int), .int .i64 m] w fun e w' => e = .returned (.int .u32 (rotl m.toNat x : Nat)) ∧ w' = w := by
  obtain ⟨n, rfl⟩ := Int.eq_ofNat_of_zero_le (show 0 ≤ m by omega)
  exact rl_any x n w (by omega) (by omega) hx

theorem left_any (x n : Nat) (w : World) (h1 : 1 ≤ n) (h2 : n ≤ 31) (hx : x < 4294967296) :
    Calls Try.prog 66 #[.int .u32 (x : Int), .int .u64 (n : Int)] w fun e w' => e = .returned (.int .u32 (rotl n x : Nat)) ∧ w' = w := by
  go_enter Try.func66, Try.ntmps66
  go_wp2
  go_ret
  exact ⟨ret_int (rot_int hx), rfl⟩

theorem results_tmp4 {fn : Func} {t u v x : Tmp} (h : fn.results = #[.tmp t, .tmp u, .tmp v, .tmp x]) (tmps : Array Value) (P : Program) (w : World) :
    (results fn tmps).run P w = .ok (.tuple #[tmps.getD t undef, tmps.getD u undef, tmps.getD v undef, tmps.getD x undef]) w := by
  simp [results, h]

/- four words turned -/
theorem quarter_any (a b c d : Nat) (w : World) (_ha : a < 4294967296) (hb : b < 4294967296) (_hc : c < 4294967296) (hd : d < 4294967296) :
    Calls Try.prog 71 #[.int .u32 (a : Int), .int .u32 (b : Int), .int .u32 (c : Int), .int .u32 (d : Int)] w fun e w' =>
      e = .returned (.tuple #[.int .u32 (at0 (qP a b c d) 0 : Nat), .int .u32 (at0 (qP a b c d) 1 : Nat), .int .u32 (at0 (qP a b c d) 2 : Nat), .int .u32 (at0 (qP a b c d) 3 : Nat)]) ∧ w' = w := by
  obtain ⟨a1, ha1⟩ : ∃ x, x = (a + b) % 4294967296 := ⟨_, rfl⟩
  obtain ⟨d0, hd0⟩ : ∃ x, x = d ^^^ a1 := ⟨_, rfl⟩
  obtain ⟨d1, hd1⟩ : ∃ x, x = rotl 16 d0 := ⟨_, rfl⟩
  obtain ⟨c1, hc1⟩ : ∃ x, x = (c + d1) % 4294967296 := ⟨_, rfl⟩
  obtain ⟨b0, hb0⟩ : ∃ x, x = b ^^^ c1 := ⟨_, rfl⟩
  obtain ⟨b1, hb1⟩ : ∃ x, x = rotl 12 b0 := ⟨_, rfl⟩
  obtain ⟨a2, ha2⟩ : ∃ x, x = (a1 + b1) % 4294967296 := ⟨_, rfl⟩
  obtain ⟨d2, hd2⟩ : ∃ x, x = d1 ^^^ a2 := ⟨_, rfl⟩
  obtain ⟨d3, hd3⟩ : ∃ x, x = rotl 8 d2 := ⟨_, rfl⟩
  obtain ⟨c2, hc2⟩ : ∃ x, x = (c1 + d3) % 4294967296 := ⟨_, rfl⟩
  obtain ⟨b2, hb2⟩ : ∃ x, x = b1 ^^^ c2 := ⟨_, rfl⟩
  obtain ⟨b3, hb3⟩ : ∃ x, x = rotl 7 b2 := ⟨_, rfl⟩
  have HQ : Shy (qP a b c d = [a2, b3, c2, d3]) := ⟨by rw [hb3, hb2, hc2, hd3, hd2, ha2, hb1, hb0, hc1, hd1, hd0, ha1]; rfl⟩
  have e1 : IntKind.u32.wrap ((a : Int) + (b : Int)) = (a1 : Int) := by rw [ha1]; exact wrap32_add _ _
  have la1 : a1 < 4294967296 := by omega
  have e2 : bits .xor .u32 (d : Int) (a1 : Int) = (d0 : Int) := by rw [hd0]; exact u32_xor_nat _ _ hd la1
  have ld0 : d0 < 4294967296 := by rw [hd0]; exact xor_lt hd la1
  have ld1 : d1 < 4294967296 := by rw [hd1]; exact rotl_lt ld0
  have e3 : IntKind.u32.wrap ((c : Int) + (d1 : Int)) = (c1 : Int) := by rw [hc1]; exact wrap32_add _ _
  have lc1 : c1 < 4294967296 := by omega
  have e4 : bits .xor .u32 (b : Int) (c1 : Int) = (b0 : Int) := by rw [hb0]; exact u32_xor_nat _ _ hb lc1
  have lb0 : b0 < 4294967296 := by rw [hb0]; exact xor_lt hb lc1
  have lb1 : b1 < 4294967296 := by rw [hb1]; exact rotl_lt lb0
  have e5 : IntKind.u32.wrap ((a1 : Int) + (b1 : Int)) = (a2 : Int) := by rw [ha2]; exact wrap32_add _ _
  have la2 : a2 < 4294967296 := by omega
  have e6 : bits .xor .u32 (d1 : Int) (a2 : Int) = (d2 : Int) := by rw [hd2]; exact u32_xor_nat _ _ ld1 la2
  have ld2 : d2 < 4294967296 := by rw [hd2]; exact xor_lt ld1 la2
  have ld3 : d3 < 4294967296 := by rw [hd3]; exact rotl_lt ld2
  have e7 : IntKind.u32.wrap ((c1 : Int) + (d3 : Int)) = (c2 : Int) := by rw [hc2]; exact wrap32_add _ _
  have lc2 : c2 < 4294967296 := by omega
  have e8 : bits .xor .u32 (b1 : Int) (c2 : Int) = (b2 : Int) := by rw [hb2]; exact u32_xor_nat _ _ lb1 lc2
  have lb2 : b2 < 4294967296 := by rw [hb2]; exact xor_lt lb1 lc2
  have k1 : Hid (∀ w, Calls Try.prog 72 #[.int .u32 (d0 : Int), .int .i64 16] w fun e w' => e = .returned (.int .u32 (d1 : Nat)) ∧ w' = w) := by rw [hd1]; exact fun w => rl_i d0 16 w (by decide) (by decide) ld0
  have k2 : Hid (∀ w, Calls Try.prog 72 #[.int .u32 (b0 : Int), .int .i64 12] w fun e w' => e = .returned (.int .u32 (b1 : Nat)) ∧ w' = w) := by rw [hb1]; exact fun w => rl_i b0 12 w (by decide) (by decide) lb0
  have k3 : Hid (∀ w, Calls Try.prog 72 #[.int .u32 (d2 : Int), .int .i64 8] w fun e w' => e = .returned (.int .u32 (d3 : Nat)) ∧ w' = w) := by rw [hd3]; exact fun w => rl_i d2 8 w (by decide) (by decide) ld2
  have k4 : Hid (∀ w, Calls Try.prog 72 #[.int .u32 (b2 : Int), .int .i64 7] w fun e w' => e = .returned (.int .u32 (b3 : Nat)) ∧ w' = w) := by rw [hb3]; exact fun w => rl_i b2 7 w (by decide) (by decide) lb2
  rw [HQ.out]
  clear ha1 hd0 hd1 hc1 hb0 hb1 ha2 hd2 hd3 hc2 hb2 hb3 HQ la1 ld0 ld1 lc1 lb0 lb1 la2 ld2 ld3 lc2 lb2 hb hd
  go_enter Try.func71, Try.ntmps71
  go_wp2_with fail
  go_at_call 72
  refine (k1.out _).mono ?_
  rintro e w' ⟨rfl, rfl⟩
  go_wp2_with fail
  go_at_call 72
  refine (k2.out _).mono ?_
  rintro e w' ⟨rfl, rfl⟩
  go_wp2_with fail
  go_at_call 72
  refine (k3.out _).mono ?_
  rintro e w' ⟨rfl, rfl⟩
  go_wp2_with fail
  go_at_call 72
  refine (k4.out _).mono ?_
  rintro e w' ⟨rfl, rfl⟩
  go_wp2_with fail
  refine bodyPost_ret (results_tmp4 rfl _ _ _) rfl ?_
  exact ⟨rfl, rfl⟩

def u32s (l : List Nat) : List Value := l.map (fun n : Nat => Value.int .u32 (n : Int))
def u8s (l : List Nat) : List Value := l.map (fun n : Nat => Value.int .u8 (n : Int))
def row32 (t : TypeId) (l : List Nat) : Obj := .cells (u32s l).toArray t (0, 0)
def row8 (t : TypeId) (l : List Nat) : Obj := .cells (u8s l).toArray t (0, 0)
def arr32 (l : List Nat) : Value := .agg (u32s l).toArray
def arr8 (l : List Nat) : Value := .agg (u8s l).toArray

theorem u32s_length (l : List Nat) : (u32s l).length = l.length := by simp [u32s]
theorem u8s_length (l : List Nat) : (u8s l).length = l.length := by simp [u8s]
theorem u32s_one (l : List Nat) : ∀ v ∈ u32s l, v.oneCell' = true := by
  intro v hv
  simp only [u32s, List.mem_map] at hv
  obtain ⟨n, _, rfl⟩ := hv
  rfl
theorem u8s_one (l : List Nat) : ∀ v ∈ u8s l, v.oneCell' = true := by
  intro v hv
  simp only [u8s, List.mem_map] at hv
  obtain ⟨n, _, rfl⟩ := hv
  rfl
theorem all_one {cs : List Value} (h : ∀ v ∈ cs, v.oneCell' = true) : cs.toArray.all (·.oneCell') = true :=
  Array.all_eq_true_iff_forall_mem.2 (fun v hv => h v (by simpa using hv))

theorem lt_heap {w : World} {k : Nat} {o : Obj} (h : w.heap[k]? = some o) : k < w.heap.size := (Array.getElem?_eq_some_iff.1 h).1
theorem lt_cell {w : World} {p : Addr} {v : Value} (h : w.cell? p = some v) : p.block < w.heap.size := by
  rcases Nat.lt_or_ge p.block w.heap.size with h1 | h1
  · exact h1
  · have : w.heap[p.block]? = none := Array.getElem?_eq_none h1
    simp [World.cell?, this] at h

theorem cell32 {w : World} {g j : Nat} {t : TypeId} {l : List Nat} (h : w.heap[g]? = some (row32 t l)) (hj : j < l.length) : w.cell? ⟨g, j, none⟩ = some (.int .u32 (at0 l j : Nat)) := by
  rw [cell_of_row w g j _ t (0, 0) h]
  simp [u32s, get_at0 hj]
theorem cell8 {w : World} {g j : Nat} {t : TypeId} {l : List Nat} (h : w.heap[g]? = some (row8 t l)) (hj : j < l.length) : w.cell? ⟨g, j, none⟩ = some (.int .u8 (at0 l j : Nat)) := by
  rw [cell_of_row w g j _ t (0, 0) h]
  simp [u8s, get_at0 hj]
theorem set32 {w : World} {g j x : Nat} {t : TypeId} {l : List Nat} (h : w.heap[g]? = some (row32 t l)) : (w.setCell ⟨g, j, none⟩ (.int .u32 (x : Int))).heap[g]? = some (row32 t (l.set j x)) := by
  rw [heap_setCell_same w g j _ t _ h]
  unfold row32 u32s
  congr 2
  simp
theorem set8 {w : World} {g j x : Nat} {t : TypeId} {l : List Nat} (h : w.heap[g]? = some (row8 t l)) : (w.setCell ⟨g, j, none⟩ (.int .u8 (x : Int))).heap[g]? = some (row8 t (l.set j x)) := by
  rw [heap_setCell_same w g j _ t _ h]
  unfold row8 u8s
  congr 2
  simp

/- a whole row stored -/
theorem wpList_store_own {P : Program} {ops : Array Oper} {rest : List Oper} {o : Oper} {a : Act} {w : World} {Q : Exit → Act → World → Prop} (hgd : o.guard = none) (ty : TypeId) (x y : Operand) (ho : o.op = .store ty x y)
    (g : Nat) (hx : a.eval x = .pointer (some ⟨g, 0, none⟩)) (cs' : Array Value) (hy : a.eval y = .agg cs') (t : TypeId) (cs : Array Value) (hg : w.heap[g]? = some (.cells cs t (0, 0)))
    (hi : (P.info? ty).map (·.size) = some cs'.size) (hs : cs.size = cs'.size) (h1 : cs'.all (·.oneCell') = true)
    (h : wpList P ops Q rest (a.put o.dst undef) (w.setRow g cs')) : wpList P ops Q (o :: rest) a w :=
  wpList_plain hgd fun K hK => by
    have e := run_storeVar_row (P := P) w g t ty cs cs' hg hi hs h1
    unfold Oper.wp execOp
    simp only [ho, hx, hy, Instr.storeAt, Instr.sureAddr, Sem.run_bind, Sem.run_pure, Result.andThen_ok, e]
    exact hK _ _ h

theorem bodyPost_ret_by {P : Program} {fn : Func} {R : Ending → World → Prop} {a : Act} {w : World} {v : Value}
    (hr : (results fn a.tmps).run P w = .ok v w) (hd : a.defers = []) (hR : R (.returned v) w) : bodyPost P fn R .ret a w := bodyPost_ret hr hd hR

/- a result that is a row -/
theorem ret_row {fn : Func} {p : Tmp} {ty : TypeId} (h : fn.results = #[.cell p ty]) {R : Ending → World → Prop} {a : Act} {w : World} (g : Nat) (t : TypeId) (cs : Array Value) {n : Nat} {el : TypeId} (hp : a.tmps.getD p undef = .pointer (some ⟨g, 0, none⟩))
    (hg : w.heap[g]? = some (.cells cs t (0, 0))) (hu : Try.prog.underlying ty = some (.array n el)) (hi : (Try.prog.info? ty).map (·.size) = some cs.size)
    (hd : a.defers = []) (hR : R (.returned (.agg cs)) w) : bodyPost Try.prog fn R .ret a w :=
  bodyPost_ret_by (results_cell_row (P := Try.prog) h _ w g t cs (0, 0) _ hp hg hu rfl hi) hd hR


theorem below_drewN' {B : Nat} {w w' : World} (h : Below B w w') (q : Nat) : Below B w (w'.drewN q) := ⟨h.1, h.2, h.3, h.4, h.5⟩
theorem Below.setRow' {B g : Nat} {w0 w : World} (hb : Below B w0 w) (hBg : B ≤ g) (cs : Array Value) : Below B w0 (w.setRow g cs) :=
  hb.trans ⟨rfl, rfl, rfl, by simp [World.setRow], fun k hk => setRow_other w g k cs (by omega)⟩

end Go.Proofs.Ytdmodknjcdkocaa.Pg
