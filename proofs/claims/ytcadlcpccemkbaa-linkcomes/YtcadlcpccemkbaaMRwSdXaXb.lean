/- The reader's numbers and texts. The reader's end. Frames: what is wrong with them, and for whom they are. Frames handed over; for whom they are. -/
import Derived.Test.YtcadlcpccemkbaaMRtRrRu
import Derived.Test.YtcadlcpccemkbaaMWdWeWf
namespace Go.Proofs.Ytcadlcpccemkbaa.X
open Go.RowKit
set_option maxRecDepth 100000
attribute [local go_sem] not_any mf_any

/- what a reading answers -/
def MPost (g k sz : Nat) (s f field : ByteArray) (code : Int) (w : World) (v : Value) (e : Ending) (w' : World) : Prop :=
  e = .returned v ∧ w'.heap[g]? = some (rdN s k sz f field code) ∧ But g w w'
/- .. behind the first fault -/
def OPost (g k : Nat) (s f : ByteArray) (c : Int) (w : World) (v : Value) (e : Ending) (w' : World) : Prop :=
  e = .returned v ∧ w'.heap[g]? = some (rdr s k c f) ∧ But g w w'
def restOf (s : ByteArray) (k : Nat) : List Nat := (nums s).drop k
theorem restOf_nums (s : ByteArray) (k : Nat) : nums (s.extract k s.size) = restOf s k := nums_rest s k
theorem size_rest {s : ByteArray} {k : Nat} (h : s.size ≤ 281474976710656) : (s.extract k s.size).size ≤ 281474976710656 := by
  rw [size_nums, nums_rest, List.length_drop, nums_length]; omega
theorem But.alloc (g : Nat) (w : World) (o : Obj) : But g w (w.alloc o) := But.of_below ((Below.refl _ _).alloc (Nat.le_refl _) _)
theorem box_keep {w w' : World} {o : Obj} (h : Below (w.alloc o).heap.size (w.alloc o) w') : w'.heap[w.heap.size]? = some o := after_alloc h

set_option maxHeartbeats 1000000 in
theorem rnumber_any (g k n : Nat) (s f field : ByteArray) (w : World) (h : w.heap[g]? = some (rdr s k 0 f)) (hk : k ≤ s.size) (hs : s.size ≤ 281474976710656) (hn : n ≤ 8) :
    Calls Try.prog 62 #[.pointer (some ⟨g, 0, none⟩), .string field, .int .i64 (n : Int)] w (MPost g k n s f field (numC n (restOf s k)) w (.int .u64 (numX n (restOf s k) : Nat))) := by
  have lt := lt_heap h
  have k1 := hide1 (read_num g k n s f field (numC n (restOf s k)) w.heap.size (numX n (restOf s k)) (w.alloc (.cells #[.int .i64 (n : Int)] 3)) ((Below.heap_alloc _ _ _ lt).trans h) hk hs (by omega) (fun w' hb => (number1_any n w.heap.size (s.extract k s.size) w' hn (boxed (box_keep hb))).mono (by
    rintro e w2 ⟨rfl, q, rfl⟩
    rw [restOf_nums]
    exact ⟨rfl, rfl, rfl, rfl, Nat.le_refl _, fun _ _ => rfl⟩)))
  have HZ : Hid (numC n (restOf s k) ≠ 0 → numX n (restOf s k) = 0) := fun hc => by
    unfold numC at hc
    unfold numX
    split at hc
    · exact absurd rfl hc
    · rw [if_neg (by assumption)]
  clear h
  go_enter Try.func62, Try.ntmps62
  go_wp2_with fail
  refine k1.out.mono ?_
  intro e w1 hp
  have he : e = .returned (.int .u64 (numX n (restOf s k) : Nat)) := by
    by_cases hc : numC n (restOf s k) = 0
    · exact hp.good hc
    · rw [HZ.out hc]; exact hp.bad hc
  have H1 := hide1 hp.row
  have H2 := hide1 hp.but
  clear hp k1
  subst he
  go_wp2
  go_ret
  exact ⟨rfl, H1.out, (But.alloc _ _ _).trans H2.out⟩

theorem rnumber_over (g k n : Nat) (s f field : ByteArray) (c : Int) (w : World) (h : w.heap[g]? = some (rdr s k c f)) (hc : c ≠ 0) :
    Calls Try.prog 62 #[.pointer (some ⟨g, 0, none⟩), .string field, .int .i64 (n : Int)] w (OPost g k s f c w (.int .u64 0)) := by
  have lt := lt_heap h
  have k1 := fun fv => hide1 (over_num g k s f field c fv (w.alloc (.cells #[.int .i64 (n : Int)] 3)) ((Below.heap_alloc _ _ _ lt).trans h) hc)
  have H := hide1 ((Below.heap_alloc w (.cells #[.int .i64 (n : Int)] 3) _ lt).trans h)
  clear h
  go_enter Try.func62, Try.ntmps62
  go_wp2_with (go_at_call 67; refine (k1 _).out.mono ?_; rintro e w1 ⟨rfl, rfl⟩)
  go_ret
  exact ⟨rfl, H.out, But.alloc _ _ _⟩

theorem numX_lt {n : Nat} {R : List Nat} (h : Lt 256 R) : numX n R < 256 ^ n := by
  unfold numX
  split
  · have h1 := val_lt _ (h.take n)
    have h2 : (R.take n).length = n := by rw [List.length_take]; omega
    rwa [h2] at h1
  · exact Nat.pow_pos (by omega)
theorem restOf_lt (s : ByteArray) (k : Nat) : Lt 256 (restOf s k) := (nums_all s).drop k

theorem rU8_any (g k : Nat) (s f field : ByteArray) (w : World) (h : w.heap[g]? = some (rdr s k 0 f)) (hk : k ≤ s.size) (hs : s.size ≤ 281474976710656) :
    Calls Try.prog 52 #[.pointer (some ⟨g, 0, none⟩), .string field] w (MPost g k 1 s f field (numC 1 (restOf s k)) w (.int .u8 (numX 1 (restOf s k) : Nat))) := by
  have k1 := hide1 (rnumber_any g k 1 s f field w h hk hs (by omega))
  have hx := numX_lt (n := 1) (restOf_lt s k)
  generalize numX 1 (restOf s k) = x at *
  have e8 : IntKind.u8.wrap (x : Int) = (x : Int) := by rw [IntKind.wrap_u8]; omega
  have e8' : (x : Int) % 256 = (x : Int) := by omega
  generalize numC 1 (restOf s k) = code at *
  have HM : Hid (∀ e w', MPost g k 1 s f field code w (.int .u64 (x : Int)) e w' → e = .returned (.int .u64 (x : Int)) ∧ w'.heap[g]? = some (rdN s k 1 f field code) ∧ But g w w') := fun _ _ h => h
  clear h hk hs hx
  go_enter Try.func52, Try.ntmps52
  go_wp2_with (go_at_call 62; refine k1.out.mono ?_; intro e w1 hp; obtain ⟨rfl, h1, h2⟩ := HM.out e w1 hp; have H1 := hide1 h1; clear hp h1)
  go_ret
  exact ⟨rfl, H1.out, h2⟩
theorem rU8_over (g k : Nat) (s f field : ByteArray) (c : Int) (w : World) (h : w.heap[g]? = some (rdr s k c f)) (hc : c ≠ 0) :
    Calls Try.prog 52 #[.pointer (some ⟨g, 0, none⟩), .string field] w (OPost g k s f c w (.int .u8 0)) := by
  have k1 := hide1 (rnumber_over g k 1 s f field c w h hc)
  have HM : Hid (∀ e w', OPost g k s f c w (.int .u64 0) e w' → e = .returned (.int .u64 0) ∧ w'.heap[g]? = some (rdr s k c f) ∧ But g w w') := fun _ _ h => h
  clear h
  go_enter Try.func52, Try.ntmps52
  go_wp2_with (go_at_call 62; refine k1.out.mono ?_; intro e w1 hp; obtain ⟨rfl, h1, h2⟩ := HM.out e w1 hp; have H1 := hide1 h1; clear hp h1)
  go_ret
  exact ⟨rfl, H1.out, h2⟩

theorem rU32_any (g k : Nat) (s f field : ByteArray) (w : World) (h : w.heap[g]? = some (rdr s k 0 f)) (hk : k ≤ s.size) (hs : s.size ≤ 281474976710656) :
    Calls Try.prog 53 #[.pointer (some ⟨g, 0, none⟩), .string field] w (MPost g k 4 s f field (numC 4 (restOf s k)) w (.int .u32 (numX 4 (restOf s k) : Nat))) := by
  have k1 := hide1 (rnumber_any g k 4 s f field w h hk hs (by omega))
  have hx := numX_lt (n := 4) (restOf_lt s k)
  generalize numX 4 (restOf s k) = x at *
  have e8 : IntKind.u32.wrap (x : Int) = (x : Int) := by rw [IntKind.wrap_u32]; omega
  have e8' : (x : Int) % 4294967296 = (x : Int) := by omega
  generalize numC 4 (restOf s k) = code at *
  have HM : Hid (∀ e w', MPost g k 4 s f field code w (.int .u64 (x : Int)) e w' → e = .returned (.int .u64 (x : Int)) ∧ w'.heap[g]? = some (rdN s k 4 f field code) ∧ But g w w') := fun _ _ h => h
  clear h hk hs hx
  go_enter Try.func53, Try.ntmps53
  go_wp2_with (go_at_call 62; refine k1.out.mono ?_; intro e w1 hp; obtain ⟨rfl, h1, h2⟩ := HM.out e w1 hp; have H1 := hide1 h1; clear hp h1)
  go_ret
  exact ⟨rfl, H1.out, h2⟩
theorem rU32_over (g k : Nat) (s f field : ByteArray) (c : Int) (w : World) (h : w.heap[g]? = some (rdr s k c f)) (hc : c ≠ 0) :
    Calls Try.prog 53 #[.pointer (some ⟨g, 0, none⟩), .string field] w (OPost g k s f c w (.int .u32 0)) := by
  have k1 := hide1 (rnumber_over g k 4 s f field c w h hc)
  have HM : Hid (∀ e w', OPost g k s f c w (.int .u64 0) e w' → e = .returned (.int .u64 0) ∧ w'.heap[g]? = some (rdr s k c f) ∧ But g w w') := fun _ _ h => h
  clear h
  go_enter Try.func53, Try.ntmps53
  go_wp2_with (go_at_call 62; refine k1.out.mono ?_; intro e w1 hp; obtain ⟨rfl, h1, h2⟩ := HM.out e w1 hp; have H1 := hide1 h1; clear hp h1)
  go_ret
  exact ⟨rfl, H1.out, h2⟩

/- Raw: its code, its bytes, how many are read -/
def rawC (n : Int) (R : List Nat) : Int := if n < 0 ∨ 65536 < n then 1 else if (R.length : Int) < n then 12 else 0
def rawT (n : Int) (R : List Nat) : ByteArray := if rawC n R = 0 then txt (R.take n.toNat) else ⟨#[]⟩
def rawS (n : Int) : Nat := if n < 0 ∨ 65536 < n then 0 else n.toNat

end Go.Proofs.Ytcadlcpccemkbaa.X

namespace Go.Proofs.Ytcadlcpccemkbaa.X
open Go.RowKit
set_option maxRecDepth 100000
attribute [local go_sem] not_any mf_any

/- an error in memory: none, or what New made -/
def ErrIs (w : World) (c : Int) (f : ByteArray) (v : Value) : Prop := (c = 0 ∧ v = .nilIface) ∨ (c ≠ 0 ∧ ∃ p, v = .iface 64 (.pointer (some ⟨p, 0, none⟩)) ∧ w.heap[p]? = some (flt c f))
def tENDs : ByteArray := ⟨#[101, 110, 100]⟩

end Go.Proofs.Ytcadlcpccemkbaa.X

namespace Go.Proofs.Ytcadlcpccemkbaa.X
open Go.RowKit
set_option maxRecDepth 100000
attribute [local go_sem] not_any mf_any

/- a frame -/
def fra (k o p q a : Int) (b : ByteArray) : Value := .agg #[.int .i64 k, .int .u32 o, .int .u32 p, .int .u32 q, .int .u32 a, .string b]

theorem box6 {w : World} {g : Nat} {x y z u v s : Value} {t : TypeId} (h : w.heap[g]? = some (.cells #[x, y, z, u, v, s] t (0, 0))) :
    w.cell? ⟨g, 0, none⟩ = some x ∧ w.cell? ⟨g, 1, none⟩ = some y ∧ w.cell? ⟨g, 2, none⟩ = some z ∧ w.cell? ⟨g, 3, none⟩ = some u ∧ w.cell? ⟨g, 4, none⟩ = some v ∧ w.cell? ⟨g, 5, none⟩ = some s ∧ g < w.heap.size :=
  ⟨by rw [cell_of_row w g 0 _ _ _ h]; rfl, by rw [cell_of_row w g 1 _ _ _ h]; rfl, by rw [cell_of_row w g 2 _ _ _ h]; rfl, by rw [cell_of_row w g 3 _ _ _ h]; rfl, by rw [cell_of_row w g 4 _ _ _ h]; rfl, by rw [cell_of_row w g 5 _ _ _ h]; rfl, lt_heap h⟩
theorem below1 {w : World} (o : Obj) : Below w.heap.size w (w.alloc o) := (Below.refl _ _).alloc (Nat.le_refl _) _
theorem belowN {B : Nat} {w w' : World} (h : Below B w w') (q : Nat) : Below B w (w'.drewN q) := ⟨h.1, h.2, h.3, h.4, h.5⟩

/- what a kind must not have, or must -/
def Mis (k q a : Int) (n : Nat) : Prop := (k = 1 ∧ (q ≠ 0 ∨ a ≠ 0 ∨ n ≠ 0)) ∨ (k = 2 ∧ q = 0) ∨ (k ≠ 1 ∧ k ≠ 2 ∧ n ≠ 0)
instance (k q a : Int) (n : Nat) : Decidable (Mis k q a n) := by unfold Mis; infer_instance
theorem empty_of {b : ByteArray} (h : b.size = 0) : b = ⟨#[]⟩ := by
  apply ByteArray.ext
  exact Array.eq_empty_of_size_eq_zero h
theorem isEmpty_size (b : ByteArray) : b.toList.isEmpty = decide (b.size = 0) := by
  rw [Bool.eq_iff_iff, decide_eq_true_iff, Lib.toList_data, List.isEmpty_iff, Lib.size_eq, List.length_eq_zero_iff]
theorem ret_bool {x y : Bool} (h : x = y) : Ending.returned (.bool x) = Ending.returned (.bool y) := by rw [h]

set_option maxHeartbeats 1000000 in
theorem mis_any (k o p q a : Int) (b : ByteArray) (w : World) :
    Calls Try.prog 55 #[fra k o p q a b] w fun e w' => e = .returned (.bool (decide (Mis k q a b.size))) ∧ Below w.heap.size w w' := by
  unfold fra
  go_enter Try.func55, Try.ntmps55
  go_wp2_with (first | go_in)
  all_goals go_ret
  all_goals refine ⟨?_, ?_⟩
  all_goals first
    | exact below1 _
    | exact (below1 _).drew
    | (refine ret_bool ?_
       try rw [isEmpty_size]
       simp only [beq_iff_eq, beq_eq_false_iff_ne, ne_eq] at *
       rw [Bool.eq_iff_iff, decide_eq_true_iff]
       unfold Mis
       simp only [Bool.not_eq_true', decide_eq_false_iff_not, beq_iff_eq, true_iff]
       omega)

/- what is wrong with a frame -/
def chk (k o p q a : Int) (n : Nat) : Int :=
  if k < 1 ∨ 3 < k then 15 else if Mis k q a n then 13 else if o = 0 ∨ (p = 0 ∧ k ≠ 1) then 20 else if q ≠ 0 ∧ k = 3 then 13 else if 65536 < n then 2 else 0
theorem chk_15 {k o p q a : Int} {n : Nat} (h : k < 1 ∨ 3 < k) : chk k o p q a n = 15 := if_pos h
theorem chk_mis {k o p q a : Int} {n : Nat} (h1 : ¬ (k < 1 ∨ 3 < k)) (h2 : Mis k q a n) : chk k o p q a n = 13 := by rw [chk, if_neg h1, if_pos h2]
theorem chk_20 {k o p q a : Int} {n : Nat} (h1 : ¬ (k < 1 ∨ 3 < k)) (h2 : ¬ Mis k q a n) (h3 : o = 0 ∨ (p = 0 ∧ k ≠ 1)) : chk k o p q a n = 20 := by rw [chk, if_neg h1, if_neg h2, if_pos h3]
theorem chk_13 {k o p q a : Int} {n : Nat} (h1 : ¬ (k < 1 ∨ 3 < k)) (h2 : ¬ Mis k q a n) (h3 : ¬ (o = 0 ∨ (p = 0 ∧ k ≠ 1))) (h4 : q ≠ 0 ∧ k = 3) : chk k o p q a n = 13 := by rw [chk, if_neg h1, if_neg h2, if_neg h3, if_pos h4]
theorem chk_2 {k o p q a : Int} {n : Nat} (h1 : ¬ (k < 1 ∨ 3 < k)) (h2 : ¬ Mis k q a n) (h3 : ¬ (o = 0 ∨ (p = 0 ∧ k ≠ 1))) (h4 : ¬ (q ≠ 0 ∧ k = 3)) (h5 : 65536 < n) : chk k o p q a n = 2 := by rw [chk, if_neg h1, if_neg h2, if_neg h3, if_neg h4, if_pos h5]
theorem chk_0 {k o p q a : Int} {n : Nat} (h1 : ¬ (k < 1 ∨ 3 < k)) (h2 : ¬ Mis k q a n) (h3 : ¬ (o = 0 ∨ (p = 0 ∧ k ≠ 1))) (h4 : ¬ (q ≠ 0 ∧ k = 3)) (h5 : ¬ 65536 < n) : chk k o p q a n = 0 := by rw [chk, if_neg h1, if_neg h2, if_neg h3, if_neg h4, if_neg h5]
theorem ret_int {t : IntKind} {x y : Int} (h : y = x) : Ending.returned (.int t x) = Ending.returned (.int t y) := by rw [h]

set_option maxHeartbeats 2000000 in
theorem check_any (k o p q a : Int) (b : ByteArray) (w : World) :
    Calls Try.prog 44 #[fra k o p q a b] w fun e w' => e = .returned (.int .i64 (chk k o p q a b.size)) ∧ Below w.heap.size w w' := by
  have kM := fun w => hide1 (mis_any k o p q a b w)
  unfold fra at *
  go_enter Try.func44, Try.ntmps44
  go_upto_region 1 with (fail)
  generalize hX : World.alloc w _ = X
  have HX : Hid (Below w.heap.size w X) := by rw [← hX]; exact below1 _
  have h0 := hX ▸ heap_alloc_new w _
  obtain ⟨c0, c1, c2, c3, c4, c5, l0⟩ := box6 h0
  have H0 := hide1 h0
  clear hX h0
  go_wp2_with (first | (go_at_call 55; refine (kM _).out.mono ?_; rintro e w1 ⟨rfl, hb1⟩; obtain ⟨d0, d1, d2, d3, d4, d5, l1⟩ := box6 ((hb1.block _ l0).trans H0.out)))
  all_goals go_ret
  all_goals refine ⟨ret_int ?_, ?_⟩
  all_goals first
    | exact HX.out
    | exact HX.out.drew
    | exact HX.out.trans (hb1.mono HX.out.size)
    | exact (HX.out.trans (hb1.mono HX.out.size)).drew
    | exact (HX.out.trans (hb1.mono HX.out.size)).drew.drew
    | (clear kM HX H0
       try simp only [beq_iff_eq, beq_eq_false_iff_ne, bne_iff_ne, bne_eq_false_iff_eq, ne_eq] at *
       first
        | exact chk_15 (by omega)
        | exact chk_mis (by omega) (by assumption)
        | exact chk_20 (by omega) (by assumption) (by omega)
        | exact chk_13 (by omega) (by assumption) (by omega) (by omega)
        | exact chk_2 (by omega) (by assumption) (by omega) (by omega) (by omega)
        | exact chk_0 (by omega) (by assumption) (by omega) (by omega) (by omega))
end Go.Proofs.Ytcadlcpccemkbaa.X

namespace Go.Proofs.Ytcadlcpccemkbaa.X
open Go.RowKit
set_option maxRecDepth 100000
attribute [local go_sem] not_any mf_any

theorem set_box6 {w : World} {g : Nat} {x y z s t r x' y' z' s' t' r' : Value} {ty : TypeId} (h : w.heap[g]? = some (.cells #[x, y, z, s, t, r] ty (0, 0))) :
    ((((((w.setCell ⟨g, 0, none⟩ x').setCell ⟨g, 1, none⟩ y').setCell ⟨g, 2, none⟩ z').setCell ⟨g, 3, none⟩ s').setCell ⟨g, 4, none⟩ t').setCell ⟨g, 5, none⟩ r').heap[g]? = some (.cells #[x', y', z', s', t', r'] ty (0, 0)) := by
  rw [heap_setCell_same _ g 5 _ _ _ (heap_setCell_same _ g 4 _ _ _ (heap_setCell_same _ g 3 _ _ _ (heap_setCell_same _ g 2 _ _ _ (heap_setCell_same _ g 1 _ _ _ (heap_setCell_same w g 0 _ _ _ h)))))]; rfl
theorem free6 {w : World} {g : Nat} {x y z u v s : Value} {t : TypeId} (h : w.heap[g]? = some (.cells #[x, y, z, u, v, s] t (0, 0))) :
    w.frozen? ⟨g, 0, none⟩ = false ∧ w.frozen? ⟨g, 1, none⟩ = false ∧ w.frozen? ⟨g, 2, none⟩ = false ∧ w.frozen? ⟨g, 3, none⟩ = false ∧ w.frozen? ⟨g, 4, none⟩ = false ∧ w.frozen? ⟨g, 5, none⟩ = false :=
  ⟨frozen_of_row w g 0 _ _ h, frozen_of_row w g 1 _ _ h, frozen_of_row w g 2 _ _ h, frozen_of_row w g 3 _ _ h, frozen_of_row w g 4 _ _ h, frozen_of_row w g 5 _ _ h⟩
theorem ret_fr {fn : Func} {p : Tmp} (h : fn.results = #[.cell p 73]) {R : Ending → World → Prop} {a : Act} {w : World} (g : Nat) (x y z u v s : Value) (hp : a.tmps.getD p undef = .pointer (some ⟨g, 0, none⟩))
    (hg : w.heap[g]? = some (.cells #[x, y, z, u, v, s] 73 (0, 0))) (hd : a.defers = []) (hR : R (.returned (.agg #[x, y, z, u, v, s])) w) : bodyPost Try.prog fn R .ret a w :=
  bodyPost_ret_by (results_cell_row h a.tmps w g 73 #[x, y, z, u, v, s] (0, 0) _ hp hg Try.underlying73 rfl (by kernel_rfl)) hd hR
/- for whom a frame is -/
def frC (k o p own peer : Int) : Int := if o < peer ∨ (k ≠ 1 ∧ p ≠ own) then 21 else 0
set_option maxHeartbeats 1000000 in
theorem for_any (k o p q a : Int) (b : ByteArray) (own peer : Int) (w : World) :
    Calls Try.prog 48 #[fra k o p q a b, .int .u32 own, .int .u32 peer] w fun e w' => e = .returned (.int .i64 (frC k o p own peer)) ∧ Below w.heap.size w w' := by
  unfold fra
  go_enter Try.func48, Try.ntmps48
  go_wp2_with (first | go_in)
  all_goals go_ret
  all_goals refine ⟨ret_int ?_, ?_⟩
  all_goals first
    | exact below1 _
    | exact (below1 _).drew
    | (try simp only [bne_iff_ne, bne_eq_false_iff_eq, ne_eq] at *
       first
        | exact if_pos (by omega)
        | exact if_neg (by omega))
end Go.Proofs.Ytcadlcpccemkbaa.X
