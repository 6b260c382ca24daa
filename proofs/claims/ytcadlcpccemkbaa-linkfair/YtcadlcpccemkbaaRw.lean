/- The reader's numbers and texts. -/
import Derived.Test.YtcadlcpccemkbaaMRtRrRu
namespace Go.Proofs.Ytcadlcpccemkbaa.X
open Go.RowKit
set_option maxRecDepth 100000
attribute [local go_sem] not_any mf_any

/- what a reading answers -/
def MPost (g k sz : Nat) (s f field : ByteArray) (code : Int) (w : World) (v : Value) (e : Ending) (w' : World) : Prop :=
  e = .returned v ∧ w'.heap[g]? = some (rdN s k sz f field code) ∧ But g w w'
/- .. behind the first fault -/
def OPost (g k : Nat) (s f : ByteArray) (c : Int) (w : World) (v : Value) (e : Ending) (w' : World) : Prop :=
  e = .returned v ∧ w'.heap[g]? = some (rdr s k c f) ∧ But g w w'
def restOf (s : ByteArray) (k : Nat) : List Nat := (nums s).drop k
theorem restOf_nums (s : ByteArray) (k : Nat) : nums (s.extract k s.size) = restOf s k := nums_rest s k
theorem size_rest {s : ByteArray} {k : Nat} (h : s.size ≤ 281474976710656) : (s.extract k s.size).size ≤ 281474976710656 := by
  rw [size_nums, nums_rest, List.length_drop, nums_length]; omega
theorem But.alloc (g : Nat) (w : World) (o : Obj) : But g w (w.alloc o) := But.of_below ((Below.refl _ _).alloc (Nat.le_refl _) _)
theorem box_keep {w w' : World} {o : Obj} (h : Below (w.alloc o).heap.size (w.alloc o) w') : w'.heap[w.heap.size]? = some o := after_alloc h

set_option maxHeartbeats 1000000 in
theorem rnumber_any (g k n : Nat) (s f field : ByteArray) (w : World) (h : w.heap[g]? = some (rdr s k 0 f)) (hk : k ≤ s.size) (hs : s.size ≤ 281474976710656) (hn : n ≤ 8) :
    Calls Try.prog 62 #[.pointer (some ⟨g, 0, none⟩), .string field, .int .i64 (n : Int)] w (MPost g k n s f field (numC n (restOf s k)) w (.int .u64 (numX n (restOf s k) : Nat))) := by
  have lt := lt_heap h
  have k1 := hide1 (read_num g k n s f field (numC n (restOf s k)) w.heap.size (numX n (restOf s k)) (w.alloc (.cells #[.int .i64 (n : Int)] 3)) ((Below.heap_alloc _ _ _ lt).trans h) hk hs (by omega) (fun w' hb => (number1_any n w.heap.size (s.extract k s.size) w' hn (boxed (box_keep hb))).mono (by
    rintro e w2 ⟨rfl, q, rfl⟩
    rw [restOf_nums]
    exact ⟨rfl, rfl, rfl, rfl, Nat.le_refl _, fun _ _ => rfl⟩)))
  have HZ : Hid (numC n (restOf s k) ≠ 0 → numX n (restOf s k) = 0) := fun hc => by
    unfold numC at hc
    unfold numX
    split at hc
    · exact absurd rfl hc
    · rw [if_neg (by assumption)]
  clear h
  go_enter Try.func62, Try.ntmps62
  go_wp2_with fail
  refine k1.out.mono ?_
  intro e w1 hp
  have he : e = .returned (.int .u64 (numX n (restOf s k) : Nat)) := by
    by_cases hc : numC n (restOf s k) = 0
    · exact hp.good hc
    · rw [HZ.out hc]; exact hp.bad hc
  have H1 := hide1 hp.row
  have H2 := hide1 hp.but
  clear hp k1
  subst he
  go_wp2
  go_ret
  exact ⟨rfl, H1.out, (But.alloc _ _ _).trans H2.out⟩

theorem rnumber_over (g k n : Nat) (s f field : ByteArray) (c : Int) (w : World) (h : w.heap[g]? = some (rdr s k c f)) (hc : c ≠ 0) :
    Calls Try.prog 62 #[.pointer (some ⟨g, 0, none⟩), .string field, .int .i64 (n : Int)] w (OPost g k s f c w (.int .u64 0)) := by
  have lt := lt_heap h
  have k1 := fun fv => hide1 (over_num g k s f field c fv (w.alloc (.cells #[.int .i64 (n : Int)] 3)) ((Below.heap_alloc _ _ _ lt).trans h) hc)
  have H := hide1 ((Below.heap_alloc w (.cells #[.int .i64 (n : Int)] 3) _ lt).trans h)
  clear h
  go_enter Try.func62, Try.ntmps62
  go_wp2_with (go_at_call 67; refine (k1 _).out.mono ?_; rintro e w1 ⟨rfl, rfl⟩)
  go_ret
  exact ⟨rfl, H.out, But.alloc _ _ _⟩

theorem numX_lt {n : Nat} {R : List Nat} (h : Lt 256 R) : numX n R < 256 ^ n := by
  unfold numX
  split
  · have h1 := val_lt _ (h.take n)
    have h2 : (R.take n).length = n := by rw [List.length_take]; omega
    rwa [h2] at h1
  · exact Nat.pow_pos (by omega)
theorem restOf_lt (s : ByteArray) (k : Nat) : Lt 256 (restOf s k) := (nums_all s).drop k

theorem rU8_any (g k : Nat) (s f field : ByteArray) (w : World) (h : w.heap[g]? = some (rdr s k 0 f)) (hk : k ≤ s.size) (hs : s.size ≤ 281474976710656) :
    Calls Try.prog 52 #[.pointer (some ⟨g, 0, none⟩), .string field] w (MPost g k 1 s f field (numC 1 (restOf s k)) w (.int .u8 (numX 1 (restOf s k) : Nat))) := by
  have k1 := hide1 (rnumber_any g k 1 s f field w h hk hs (by omega))
  have hx := numX_lt (n := 1) (restOf_lt s k)
  generalize numX 1 (restOf s k) = x at *
  have e8 : IntKind.u8.wrap (x : Int) = (x : Int) := by rw [IntKind.wrap_u8]; omega
  have e8' : (x : Int) % 256 = (x : Int) := by omega
  generalize numC 1 (restOf s k) = code at *
  have HM : Hid (∀ e w', MPost g k 1 s f field code w (.int .u64 (x : Int)) e w' → e = .returned (.int .u64 (x : Int)) ∧ w'.heap[g]? = some (rdN s k 1 f field code) ∧ But g w w') := fun _ _ h => h
  clear h hk hs hx
  go_enter Try.func52, Try.ntmps52
  go_wp2_with (go_at_call 62; refine k1.out.mono ?_; intro e w1 hp; obtain ⟨rfl, h1, h2⟩ := HM.out e w1 hp; have H1 := hide1 h1; clear hp h1)
  go_ret
  exact ⟨rfl, H1.out, h2⟩
theorem rU8_over (g k : Nat) (s f field : ByteArray) (c : Int) (w : World) (h : w.heap[g]? = some (rdr s k c f)) (hc : c ≠ 0) :
    Calls Try.prog 52 #[.pointer (some ⟨g, 0, none⟩), .string field] w (OPost g k s f c w (.int .u8 0)) := by
  have k1 := hide1 (rnumber_over g k 1 s f field c w h hc)
  have HM : Hid (∀ e w', OPost g k s f c w (.int .u64 0) e w' → e = .returned (.int .u64 0) ∧ w'.heap[g]? = some (rdr s k c f) ∧ But g w w') := fun _ _ h => h
  clear h
  go_enter Try.func52, Try.ntmps52
  go_wp2_with (go_at_call 62; refine k1.out.mono ?_; intro e w1 hp; obtain ⟨rfl, h1, h2⟩ := HM.out e w1 hp; have H1 := hide1 h1; clear hp h1)
  go_ret
  exact ⟨rfl, H1.out, h2⟩

theorem rU32_any (g k : Nat) (s f field : ByteArray) (w : World) (h : w.heap[g]? = some (rdr s k 0 f)) (hk : k ≤ s.size) (hs : s.size ≤ 281474976710656) :
    Calls Try.prog 53 #[.pointer (some ⟨g, 0, none⟩), .string field] w (MPost g k 4 s f field (numC 4 (restOf s k)) w (.int .u32 (numX 4 (restOf s k) : Nat))) := by
  have k1 := hide1 (rnumber_any g k 4 s f field w h hk hs (by omega))
  have hx := numX_lt (n := 4) (restOf_lt s k)
  generalize numX 4 (restOf s k) = x at *
  have e8 : IntKind.u32.wrap (x : Int) = (x : Int) := by rw [IntKind.wrap_u32]; omega
  have e8' : (x : Int) % 4294967296 = (x : Int) := by omega
  generalize numC 4 (restOf s k) = code at *
  have HM : Hid (∀ e w', MPost g k 4 s f field code w (.int .u64 (x : Int)) e w' → e = .returned (.int .u64 (x : Int)) ∧ w'.heap[g]? = some (rdN s k 4 f field code) ∧ But g w w') := fun _ _ h => h
  clear h hk hs hx
  go_enter Try.func53, Try.ntmps53
  go_wp2_with (go_at_call 62; refine k1.out.mono ?_; intro e w1 hp; obtain ⟨rfl, h1, h2⟩ := HM.out e w1 hp; have H1 := hide1 h1; clear hp h1)
  go_ret
  exact ⟨rfl, H1.out, h2⟩
theorem rU32_over (g k : Nat) (s f field : ByteArray) (c : Int) (w : World) (h : w.heap[g]? = some (rdr s k c f)) (hc : c ≠ 0) :
    Calls Try.prog 53 #[.pointer (some ⟨g, 0, none⟩), .string field] w (OPost g k s f c w (.int .u32 0)) := by
  have k1 := hide1 (rnumber_over g k 4 s f field c w h hc)
  have HM : Hid (∀ e w', OPost g k s f c w (.int .u64 0) e w' → e = .returned (.int .u64 0) ∧ w'.heap[g]? = some (rdr s k c f) ∧ But g w w') := fun _ _ h => h
  clear h
  go_enter Try.func53, Try.ntmps53
  go_wp2_with (go_at_call 62; refine k1.out.mono ?_; intro e w1 hp; obtain ⟨rfl, h1, h2⟩ := HM.out e w1 hp; have H1 := hide1 h1; clear hp h1)
  go_ret
  exact ⟨rfl, H1.out, h2⟩

/- Raw: its code, its bytes, how many are read -/
def rawC (n : Int) (R : List Nat) : Int := if n < 0 ∨ 65536 < n then 1 else if (R.length : Int) < n then 12 else 0
def rawT (n : Int) (R : List Nat) : ByteArray := if rawC n R = 0 then txt (R.take n.toNat) else ⟨#[]⟩
def rawS (n : Int) : Nat := if n < 0 ∨ 65536 < n then 0 else n.toNat

end Go.Proofs.Ytcadlcpccemkbaa.X
