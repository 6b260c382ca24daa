/- The reader's numbers and texts. -/
import Derived.Test.YtmmhfipdolbinaaGreatDoorMRrRu
namespace Go.Proofs.YtmmhfipdolbinaaGreatDoor
open Go.RowKit
set_option maxRecDepth 100000
attribute [local go_sem] not_any mf_any

/- what a reading answers -/
def MPost (g k sz : Nat) (s f field : ByteArray) (code : Int) (w : World) (v : Value) (e : Ending) (w' : World) : Prop :=
  e = .returned v ∧ w'.heap[g]? = some (rdN s k sz f field code) ∧ But g w w'
/- .. behind the first fault -/
def OPost (g k : Nat) (s f : ByteArray) (c : Int) (w : World) (v : Value) (e : Ending) (w' : World) : Prop :=
  e = .returned v ∧ w'.heap[g]? = some (rdr s k c f) ∧ But g w w'
def restOf (s : ByteArray) (k : Nat) : List Nat := (nums s).drop k
theorem restOf_nums (s : ByteArray) (k : Nat) : nums (s.extract k s.size) = restOf s k := nums_rest s k
theorem size_rest {s : ByteArray} {k : Nat} (h : s.size ≤ 281474976710656) : (s.extract k s.size).size ≤ 281474976710656 := by
  rw [size_nums, nums_rest, List.length_drop, nums_length]; omega
theorem But.alloc (g : Nat) (w : World) (o : Obj) : But g w (w.alloc o) := But.of_below ((Below.refl _ _).alloc (Nat.le_refl _) _)
theorem box_keep {w w' : World} {o : Obj} (h : Below (w.alloc o).heap.size (w.alloc o) w') : w'.heap[w.heap.size]? = some o := after_alloc h

set_option maxHeartbeats 1000000 in
theorem rnumber_any (g k n : Nat) (s f field : ByteArray) (w : World) (h : w.heap[g]? = some (rdr s k 0 f)) (hk : k ≤ s.size) (hs : s.size ≤ 281474976710656) (hn : n ≤ 8) :
    Calls Tryz.prog 41 #[.pointer (some ⟨g, 0, none⟩), .string field, .int .i64 (n : Int)] w (MPost g k n s f field (numC n (restOf s k)) w (.int .u64 (numX n (restOf s k) : Nat))) := by
  have lt := lt_heap h
  have k1 := hide1 (read_num g k n s f field (numC n (restOf s k)) w.heap.size (numX n (restOf s k)) (w.alloc (.cells #[.int .i64 (n : Int)] 3)) ((Below.heap_alloc _ _ _ lt).trans h) hk hs (by omega) (fun w' hb => (number1_any n w.heap.size (s.extract k s.size) w' hn (boxed (box_keep hb))).mono (by
    rintro e w2 ⟨rfl, q, rfl⟩
    rw [restOf_nums]
    exact ⟨rfl, rfl, rfl, rfl, Nat.le_refl _, fun _ _ => rfl⟩)))
  have HZ : Hid (numC n (restOf s k) ≠ 0 → numX n (restOf s k) = 0) := fun hc => by
    unfold numC at hc
    unfold numX
    split at hc
    · exact absurd rfl hc
    · rw [if_neg (by assumption)]
  clear h
  go_enter Tryz.func41, Tryz.ntmps41
  go_wp2_with fail
  refine k1.out.mono ?_
  intro e w1 hp
  have he : e = .returned (.int .u64 (numX n (restOf s k) : Nat)) := by
    by_cases hc : numC n (restOf s k) = 0
    · exact hp.good hc
    · rw [HZ.out hc]; exact hp.bad hc
  have H1 := hide1 hp.row
  have H2 := hide1 hp.but
  clear hp k1
  subst he
  go_wp2
  go_ret
  exact ⟨rfl, H1.out, (But.alloc _ _ _).trans H2.out⟩

theorem rnumber_over (g k n : Nat) (s f field : ByteArray) (c : Int) (w : World) (h : w.heap[g]? = some (rdr s k c f)) (hc : c ≠ 0) :
    Calls Tryz.prog 41 #[.pointer (some ⟨g, 0, none⟩), .string field, .int .i64 (n : Int)] w (OPost g k s f c w (.int .u64 0)) := by
  have lt := lt_heap h
  have k1 := fun fv => hide1 (over_num g k s f field c fv (w.alloc (.cells #[.int .i64 (n : Int)] 3)) ((Below.heap_alloc _ _ _ lt).trans h) hc)
  have H := hide1 ((Below.heap_alloc w (.cells #[.int .i64 (n : Int)] 3) _ lt).trans h)
  clear h
  go_enter Tryz.func41, Tryz.ntmps41
  go_wp2_with (go_at_call 76; refine (k1 _).out.mono ?_; rintro e w1 ⟨rfl, rfl⟩)
  go_ret
  exact ⟨rfl, H.out, But.alloc _ _ _⟩

theorem numX_lt {n : Nat} {R : List Nat} (h : Lt 256 R) : numX n R < 256 ^ n := by
  unfold numX
  split
  · have h1 := val_lt _ (h.take n)
    have h2 : (R.take n).length = n := by rw [List.length_take]; omega
    rwa [h2] at h1
  · exact Nat.pow_pos (by omega)
theorem restOf_lt (s : ByteArray) (k : Nat) : Lt 256 (restOf s k) := (nums_all s).drop k

theorem rU8_any (g k : Nat) (s f field : ByteArray) (w : World) (h : w.heap[g]? = some (rdr s k 0 f)) (hk : k ≤ s.size) (hs : s.size ≤ 281474976710656) :
    Calls Tryz.prog 9 #[.pointer (some ⟨g, 0, none⟩), .string field] w (MPost g k 1 s f field (numC 1 (restOf s k)) w (.int .u8 (numX 1 (restOf s k) : Nat))) := by
  have k1 := hide1 (rnumber_any g k 1 s f field w h hk hs (by omega))
  have hx := numX_lt (n := 1) (restOf_lt s k)
  generalize numX 1 (restOf s k) = x at *
  have e8 : IntKind.u8.wrap (x : Int) = (x : Int) := by rw [IntKind.wrap_u8]; omega
  have e8' : (x : Int) % 256 = (x : Int) := by omega
  generalize numC 1 (restOf s k) = code at *
  have HM : Hid (∀ e w', MPost g k 1 s f field code w (.int .u64 (x : Int)) e w' → e = .returned (.int .u64 (x : Int)) ∧ w'.heap[g]? = some (rdN s k 1 f field code) ∧ But g w w') := fun _ _ h => h
  clear h hk hs hx
  go_enter Tryz.func9, Tryz.ntmps9
  go_wp2_with (go_at_call 41; refine k1.out.mono ?_; intro e w1 hp; obtain ⟨rfl, h1, h2⟩ := HM.out e w1 hp; have H1 := hide1 h1; clear hp h1)
  go_ret
  exact ⟨rfl, H1.out, h2⟩
theorem rU8_over (g k : Nat) (s f field : ByteArray) (c : Int) (w : World) (h : w.heap[g]? = some (rdr s k c f)) (hc : c ≠ 0) :
    Calls Tryz.prog 9 #[.pointer (some ⟨g, 0, none⟩), .string field] w (OPost g k s f c w (.int .u8 0)) := by
  have k1 := hide1 (rnumber_over g k 1 s f field c w h hc)
  have HM : Hid (∀ e w', OPost g k s f c w (.int .u64 0) e w' → e = .returned (.int .u64 0) ∧ w'.heap[g]? = some (rdr s k c f) ∧ But g w w') := fun _ _ h => h
  clear h
  go_enter Tryz.func9, Tryz.ntmps9
  go_wp2_with (go_at_call 41; refine k1.out.mono ?_; intro e w1 hp; obtain ⟨rfl, h1, h2⟩ := HM.out e w1 hp; have H1 := hide1 h1; clear hp h1)
  go_ret
  exact ⟨rfl, H1.out, h2⟩

theorem rU32_any (g k : Nat) (s f field : ByteArray) (w : World) (h : w.heap[g]? = some (rdr s k 0 f)) (hk : k ≤ s.size) (hs : s.size ≤ 281474976710656) :
    Calls Tryz.prog 10 #[.pointer (some ⟨g, 0, none⟩), .string field] w (MPost g k 4 s f field (numC 4 (restOf s k)) w (.int .u32 (numX 4 (restOf s k) : Nat))) := by
  have k1 := hide1 (rnumber_any g k 4 s f field w h hk hs (by omega))
  have hx := numX_lt (n := 4) (restOf_lt s k)
  generalize numX 4 (restOf s k) = x at *
  have e8 : IntKind.u32.wrap (x : Int) = (x : Int) := by rw [IntKind.wrap_u32]; omega
  have e8' : (x : Int) % 4294967296 = (x : Int) := by omega
  generalize numC 4 (restOf s k) = code at *
  have HM : Hid (∀ e w', MPost g k 4 s f field code w (.int .u64 (x : Int)) e w' → e = .returned (.int .u64 (x : Int)) ∧ w'.heap[g]? = some (rdN s k 4 f field code) ∧ But g w w') := fun _ _ h => h
  clear h hk hs hx
  go_enter Tryz.func10, Tryz.ntmps10
  go_wp2_with (go_at_call 41; refine k1.out.mono ?_; intro e w1 hp; obtain ⟨rfl, h1, h2⟩ := HM.out e w1 hp; have H1 := hide1 h1; clear hp h1)
  go_ret
  exact ⟨rfl, H1.out, h2⟩
theorem rU32_over (g k : Nat) (s f field : ByteArray) (c : Int) (w : World) (h : w.heap[g]? = some (rdr s k c f)) (hc : c ≠ 0) :
    Calls Tryz.prog 10 #[.pointer (some ⟨g, 0, none⟩), .string field] w (OPost g k s f c w (.int .u32 0)) := by
  have k1 := hide1 (rnumber_over g k 4 s f field c w h hc)
  have HM : Hid (∀ e w', OPost g k s f c w (.int .u64 0) e w' → e = .returned (.int .u64 0) ∧ w'.heap[g]? = some (rdr s k c f) ∧ But g w w') := fun _ _ h => h
  clear h
  go_enter Tryz.func10, Tryz.ntmps10
  go_wp2_with (go_at_call 41; refine k1.out.mono ?_; intro e w1 hp; obtain ⟨rfl, h1, h2⟩ := HM.out e w1 hp; have H1 := hide1 h1; clear hp h1)
  go_ret
  exact ⟨rfl, H1.out, h2⟩

theorem rU64_any (g k : Nat) (s f field : ByteArray) (w : World) (h : w.heap[g]? = some (rdr s k 0 f)) (hk : k ≤ s.size) (hs : s.size ≤ 281474976710656) :
    Calls Tryz.prog 11 #[.pointer (some ⟨g, 0, none⟩), .string field] w (MPost g k 8 s f field (numC 8 (restOf s k)) w (.int .u64 (numX 8 (restOf s k) : Nat))) := by
  have k1 := hide1 (rnumber_any g k 8 s f field w h hk hs (by omega))
  have hx := numX_lt (n := 8) (restOf_lt s k)
  generalize numX 8 (restOf s k) = x at *
  generalize numC 8 (restOf s k) = code at *
  have HM : Hid (∀ e w', MPost g k 8 s f field code w (.int .u64 (x : Int)) e w' → e = .returned (.int .u64 (x : Int)) ∧ w'.heap[g]? = some (rdN s k 8 f field code) ∧ But g w w') := fun _ _ h => h
  clear h hk hs hx
  go_enter Tryz.func11, Tryz.ntmps11
  go_wp2_with (go_at_call 41; refine k1.out.mono ?_; intro e w1 hp; obtain ⟨rfl, h1, h2⟩ := HM.out e w1 hp; have H1 := hide1 h1; clear hp h1)
  go_ret
  exact ⟨rfl, H1.out, h2⟩
theorem rU64_over (g k : Nat) (s f field : ByteArray) (c : Int) (w : World) (h : w.heap[g]? = some (rdr s k c f)) (hc : c ≠ 0) :
    Calls Tryz.prog 11 #[.pointer (some ⟨g, 0, none⟩), .string field] w (OPost g k s f c w (.int .u64 0)) := by
  have k1 := hide1 (rnumber_over g k 8 s f field c w h hc)
  have HM : Hid (∀ e w', OPost g k s f c w (.int .u64 0) e w' → e = .returned (.int .u64 0) ∧ w'.heap[g]? = some (rdr s k c f) ∧ But g w w') := fun _ _ h => h
  clear h
  go_enter Tryz.func11, Tryz.ntmps11
  go_wp2_with (go_at_call 41; refine k1.out.mono ?_; intro e w1 hp; obtain ⟨rfl, h1, h2⟩ := HM.out e w1 hp; have H1 := hide1 h1; clear hp h1)
  go_ret
  exact ⟨rfl, H1.out, h2⟩

set_option maxHeartbeats 1000000 in
theorem rBlob_any0 (g k : Nat) (s f field : ByteArray) (most : Int) (w : World) (h : w.heap[g]? = some (rdr s k 0 f)) (hk : k ≤ s.size) (hs : s.size ≤ 281474976710656) :
    Calls Tryz.prog 13 #[.pointer (some ⟨g, 0, none⟩), .string field, .int .i64 most] w (MPost g k (4 + (blobT most (restOf s k)).size) s f field (lstC (mostN most 65536) 8 (restOf s k)) w (.string (blobT most (restOf s k)))) := by
  have lt := lt_heap h
  have hsz : (blobT most (restOf s k)).size ≤ 281474976710000 := by
    unfold blobT
    split
    · rename_i hc
      have h1 := lstH_length hc
      have h2 := mostN_le most 65536
      rw [← restOf_nums, txt_size (lstH_lt 8 _), restOf_nums]
      omega
    · decide
  have k1 := hide1 (read_blob g k (4 + (blobT most (restOf s k)).size) s f field (lstC (mostN most 65536) 8 (restOf s k)) w.heap.size (blobT most (restOf s k)) (w.alloc (.cells #[.int .i64 most] 3)) ((Below.heap_alloc _ _ _ lt).trans h) hk hs (by omega) (fun w' hb => (blob1_any most w.heap.size (s.extract k s.size) w' (boxed (box_keep hb)) (size_rest hs)).mono (by
    intro e w2 hp
    rw [restOf_nums] at hp
    exact hp)))
  have HZ : Hid (lstC (mostN most 65536) 8 (restOf s k) ≠ 0 → blobT most (restOf s k) = ⟨#[]⟩) := fun hc => by rw [blobT, if_neg hc]
  clear h hsz
  generalize lstC (mostN most 65536) 8 (restOf s k) = code at *
  generalize blobT most (restOf s k) = tv at *
  go_enter Tryz.func13, Tryz.ntmps13
  go_wp2_with fail
  refine k1.out.mono ?_
  intro e w1 hp
  have he : e = .returned (.string tv) := by
    by_cases hc : code = 0
    · exact hp.good hc
    · rw [HZ.out hc]; exact hp.bad hc
  have H1 := hide1 hp.row
  have H2 := hide1 hp.but
  clear hp k1
  subst he
  go_wp2
  go_ret
  exact ⟨rfl, H1.out, (But.alloc _ _ _).trans H2.out⟩
theorem rBlob_over (g k : Nat) (s f field : ByteArray) (most c : Int) (w : World) (h : w.heap[g]? = some (rdr s k c f)) (hc : c ≠ 0) :
    Calls Tryz.prog 13 #[.pointer (some ⟨g, 0, none⟩), .string field, .int .i64 most] w (OPost g k s f c w (.string ⟨#[]⟩)) := by
  have lt := lt_heap h
  have k1 := fun fv => hide1 (over_str g k s f field c fv (w.alloc (.cells #[.int .i64 most] 3)) ((Below.heap_alloc _ _ _ lt).trans h) hc)
  have H := hide1 ((Below.heap_alloc w (.cells #[.int .i64 most] 3) _ lt).trans h)
  clear h
  go_enter Tryz.func13, Tryz.ntmps13
  go_wp2_with (go_at_call 43; refine (k1 _).out.mono ?_; rintro e w1 ⟨rfl, rfl⟩)
  go_ret
  exact ⟨rfl, H.out, But.alloc _ _ _⟩

/- Raw: its code, its bytes, how many are read -/
def rawC (n : Int) (R : List Nat) : Int := if n < 0 ∨ 65536 < n then 1 else if (R.length : Int) < n then 12 else 0
def rawT (n : Int) (R : List Nat) : ByteArray := if rawC n R = 0 then txt (R.take n.toNat) else ⟨#[]⟩
def rawS (n : Int) : Nat := if n < 0 ∨ 65536 < n then 0 else n.toNat

set_option maxHeartbeats 2000000 in
theorem raw1_any (n : Int) (b : Nat) (t : ByteArray) (w : World) (hbx : w.cell? ⟨b, 0, none⟩ = some (.int .i64 n)) (hlb : b < w.heap.size) :
    Calls Tryz.prog 48 #[.string t, .pointer (some ⟨b, 0, none⟩)] w fun e w' => e = .returned (.tuple #[.string (rawT n (nums t)), .int .i64 (rawS n : Nat), .int .i64 (rawC n (nums t))]) ∧ Below w.heap.size w w' := by
  by_cases h1 : n < 0 ∨ 65536 < n
  · have hc : rawC n (nums t) = 1 := if_pos h1
    have hS : rawS n = 0 := if_pos h1
    have hT : rawT n (nums t) = ⟨#[]⟩ := by rw [rawT, hc, if_neg (by decide)]
    rw [hc, hS, hT]
    clear hc hS hT
    rcases h1 with h1 | h1
    · go_enter Tryz.func48, Tryz.ntmps48
      go_wp2
      go_ret3
      exact ⟨rfl, Below.refl _ _⟩
    · have h2 : decide (n < 0) = false := by rw [decide_eq_false_iff_not]; omega
      go_enter Tryz.func48, Tryz.ntmps48
      go_wp2
      go_ret3
      exact ⟨rfl, Below.refl _ _⟩
  obtain ⟨m, rfl⟩ : ∃ m : Nat, n = m := ⟨n.toNat, by omega⟩
  have hm : m ≤ 65536 := by omega
  have hS : rawS (m : Int) = m := by rw [rawS, if_neg h1]; rfl
  have d1 : decide ((m : Int) < 0) = false := by rw [decide_eq_false_iff_not]; omega
  have d2 : decide ((65536 : Int) < (m : Int)) = false := by rw [decide_eq_false_iff_not]; omega
  have HK : Hid (∃ tv code, rawT m (nums t) = tv ∧ rawC m (nums t) = code ∧ tv.size ≤ 281474976710656 ∧ ∀ w, Calls Tryz.prog 49 #[.string t, .int .i64 (m : Int)] w fun e w' => e = .returned (.tuple #[.string tv, .int .i64 code]) ∧ w' = w) := by
    by_cases h2 : m ≤ t.size
    · have hc : rawC (m : Int) (nums t) = 0 := by rw [rawC, if_neg h1, if_neg (by rw [nums_length]; omega)]
      refine ⟨t.extract 0 m, 0, ?_, hc, ?_, fun w => first_yes t m w h2⟩
      · rw [rawT, if_pos hc]
        apply nums_inj
        rw [nums_extract, List.drop_zero, nums_txt ((nums_all t).take _)]; rfl
      · rw [size_nums, nums_extract, List.length_drop, List.length_take]; omega
    · have hc : rawC (m : Int) (nums t) = 12 := by rw [rawC, if_neg h1, if_pos (by rw [nums_length]; omega)]
      exact ⟨⟨#[]⟩, 12, by rw [rawT, hc, if_neg (by decide)], hc, by decide, fun w => first_no t m w (by omega)⟩
  obtain ⟨tv, code, e1, e2, e3, kf⟩ := HK.out
  rw [e1, e2, hS]
  have k1 := fun w => hide1 (kf w)
  have kC := fun w => hide1 (clone_any tv w e3)
  clear HK kf e1 e2 e3 h1 hS
  go_enter Tryz.func48, Tryz.ntmps48
  go_upto_region 4 with (go_at_call 49; refine (k1 _).out.mono ?_; rintro e w1 ⟨rfl, hw1⟩; cases hw1)
  go_region_with (go_at_call 46; refine (kC _).out.mono ?_; rintro e w2 ⟨rfl, hb2⟩; have hc2 : w2.cell? ⟨b, 0, none⟩ = some (.int .i64 (m : Int)) := (hb2.cell (p := ⟨b, 0, none⟩) hlb).trans hbx; have HB2 := hide1 ((Below.refl _ _).drew.trans hb2); clear hb2)
  all_goals
    go_wp2
    go_ret3
    exact ⟨rfl, HB2.out⟩

set_option maxHeartbeats 1000000 in
theorem rRaw_any (g k : Nat) (s f field : ByteArray) (n : Int) (w : World) (h : w.heap[g]? = some (rdr s k 0 f)) (hk : k ≤ s.size) (hs : s.size ≤ 281474976710656) :
    Calls Tryz.prog 15 #[.pointer (some ⟨g, 0, none⟩), .string field, .int .i64 n] w (MPost g k (rawS n) s f field (rawC n (restOf s k)) w (.string (rawT n (restOf s k)))) := by
  have lt := lt_heap h
  have hsz : rawS n ≤ 65536 := by unfold rawS; split <;> omega
  have k1 := hide1 (read_raw g k (rawS n) s f field (rawC n (restOf s k)) w.heap.size (rawT n (restOf s k)) (w.alloc (.cells #[.int .i64 n] 3)) ((Below.heap_alloc _ _ _ lt).trans h) hk hs (by omega) (fun w' hb => (raw1_any n w.heap.size (s.extract k s.size) w' (boxed (box_keep hb)) (lt_heap (box_keep hb))).mono (by
    intro e w2 hp
    rw [restOf_nums] at hp
    exact hp)))
  have HZ : Hid (rawC n (restOf s k) ≠ 0 → rawT n (restOf s k) = ⟨#[]⟩) := fun hc => by rw [rawT, if_neg hc]
  clear h hsz
  generalize rawC n (restOf s k) = code at *
  generalize rawT n (restOf s k) = tv at *
  generalize rawS n = sz at *
  go_enter Tryz.func15, Tryz.ntmps15
  go_wp2_with fail
  refine k1.out.mono ?_
  intro e w1 hp
  have he : e = .returned (.string tv) := by
    by_cases hc : code = 0
    · exact hp.good hc
    · rw [HZ.out hc]; exact hp.bad hc
  have H1 := hide1 hp.row
  have H2 := hide1 hp.but
  clear hp k1
  subst he
  go_wp2
  go_ret
  exact ⟨rfl, H1.out, (But.alloc _ _ _).trans H2.out⟩
theorem rRaw_over (g k : Nat) (s f field : ByteArray) (n c : Int) (w : World) (h : w.heap[g]? = some (rdr s k c f)) (hc : c ≠ 0) :
    Calls Tryz.prog 15 #[.pointer (some ⟨g, 0, none⟩), .string field, .int .i64 n] w (OPost g k s f c w (.string ⟨#[]⟩)) := by
  have lt := lt_heap h
  have k1 := fun fv => hide1 (over_str g k s f field c fv (w.alloc (.cells #[.int .i64 n] 3)) ((Below.heap_alloc _ _ _ lt).trans h) hc)
  have H := hide1 ((Below.heap_alloc w (.cells #[.int .i64 n] 3) _ lt).trans h)
  clear h
  go_enter Tryz.func15, Tryz.ntmps15
  go_wp2_with (go_at_call 43; refine (k1 _).out.mono ?_; rintro e w1 ⟨rfl, rfl⟩)
  go_ret
  exact ⟨rfl, H.out, But.alloc _ _ _⟩
end Go.Proofs.YtmmhfipdolbinaaGreatDoor
