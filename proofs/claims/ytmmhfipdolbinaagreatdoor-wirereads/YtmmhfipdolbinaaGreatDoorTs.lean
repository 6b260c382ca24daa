/- Call by call: every kind of call, of a reader with a fault and of one without. -/
import Derived.Test.YtmmhfipdolbinaaGreatDoorTk
import Derived.Test.YtmmhfipdolbinaaGreatDoorTl
import Derived.Test.YtmmhfipdolbinaaGreatDoorTp
import Derived.Test.YtmmhfipdolbinaaGreatDoorTq
import Derived.Test.YtmmhfipdolbinaaGreatDoorTr
namespace Go.Proofs.YtmmhfipdolbinaaGreatDoor
open Go.RowKit
set_option maxRecDepth 100000

def fN (f field : ByteArray) (code : Int) : ByteArray := if code = 0 then f else field
theorem rdN_nk (s : ByteArray) (k sz : Nat) (f field : ByteArray) (code : Int) : rdN s k sz f field code = rdr s (nk k sz code) code (fN f field code) := by
  by_cases h : code = 0
  · subst h; rfl
  · rw [rdN_no _ _ _ _ _ h, nk_no _ _ h, fN, if_neg h]
theorem mp {g k sz F : Nat} {args : Array Value} {s f field : ByteArray} {code : Int} {w : World} {v : Value} (h : Calls Tryz.prog F args w (MPost g k sz s f field code w v)) :
    Calls Tryz.prog F args w fun e w' => e = .returned v ∧ w'.heap[g]? = some (rdr s (nk k sz code) code (fN f field code)) ∧ But g w w' :=
  h.mono (fun e w' h => ⟨h.1, by rw [← rdN_nk]; exact h.2.1, h.2.2⟩)
theorem nk_le {k sz : Nat} {code : Int} {s : ByteArray} (hk : k ≤ s.size) (h : code = 0 → k + sz ≤ s.size) : nk k sz code ≤ s.size := by
  unfold nk
  split
  · exact h ‹_›
  · exact hk
theorem numC_le {n k : Nat} {s : ByteArray} (hk : k ≤ s.size) (h : numC n (restOf s k) = 0) : k + n ≤ s.size := by
  have hl := restOf_length s k
  unfold numC at h
  split at h
  · omega
  · omega
theorem lst_parts {M : Int} {tb : Nat} {R : List Nat} (h : lstC M tb R = 0) : 4 ≤ R.length ∧ (cntN R : Int) ≤ M ∧ 4 + (cntN R * tb + 7) / 8 ≤ R.length := by
  unfold lstC at h
  split at h
  · omega
  split at h
  · omega
  split at h
  · omega
  exact ⟨by omega, by omega, by omega⟩
theorem blob_le {most : Int} {k : Nat} {s : ByteArray} (hk : k ≤ s.size) (h : lstC (mostN most 65536) 8 (restOf s k) = 0) : k + (4 + (blobT most (restOf s k)).size) ≤ s.size := by
  have hl := restOf_length s k
  obtain ⟨h1, h2, h3⟩ := lst_parts h
  have e : (blobT most (restOf s k)).size = ((restOf s k).drop 4 |>.take ((cntN (restOf s k) * 8 + 7) / 8)).length := by
    unfold blobT
    rw [if_pos h, size_nums]
    unfold lstH
    rw [nums_txt (((restOf_lt s k).drop 4).take _)]
  rw [e, List.length_take, List.length_drop]
  omega
theorem raw_le {n : Int} {k : Nat} {s : ByteArray} (hk : k ≤ s.size) (h : rawC n (restOf s k) = 0) : k + rawS n ≤ s.size := by
  have hl := restOf_length s k
  unfold rawC at h
  split at h
  · omega
  split at h
  · omega
  unfold rawS
  split
  · omega
  · omega
theorem wd_parts {width most : Int} {R : List Nat} (h : wdC width most R = 0) : ¬ (width < 1 ∨ 64 < width) ∧ lstC (mostN most 65536) (8 * bytesW width) R = 0 := by
  unfold wdC at h
  split at h
  · omega
  split at h
  · rename_i h1 h2; exact absurd h h2
  · rename_i h1 h2; exact ⟨h1, by omega⟩
theorem wd_le {width most : Int} {k : Nat} {s : ByteArray} (hk : k ≤ s.size) (h : wdC width most (restOf s k) = 0) : k + wdS width most (restOf s k) ≤ s.size := by
  have hl := restOf_length s k
  obtain ⟨h1, h2⟩ := wd_parts h
  obtain ⟨h3, h4, h5⟩ := lst_parts h2
  unfold wdS
  rw [if_neg h1, if_neg (by omega)]
  have e : cntN (restOf s k) * (8 * bytesW width) = 8 * (cntN (restOf s k) * bytesW width) := by rw [Nat.mul_left_comm]
  rw [e] at h5
  omega
theorem wdV_length (width most : Int) (R : List Nat) : (wdV width most R).length ≤ 65536 := by
  unfold wdV
  split
  · rename_i h
    obtain ⟨_, h2⟩ := wd_parts h
    obtain ⟨_, h4, _⟩ := lst_parts h2
    have := mostN_le most 65536
    unfold wdL
    rw [wordsP_length]
    omega
  · simp
theorem bt_parts {most : Int} {R : List Nat} (h : btC most R = 0) : lstC (mostN most 524288) 1 R = 0 := by
  unfold btC at h
  split at h
  · rename_i h2; exact absurd h h2
  · rename_i h2; omega
theorem bt_le {most : Int} {k : Nat} {s : ByteArray} (hk : k ≤ s.size) (h : btC most (restOf s k) = 0) : k + btS most (restOf s k) ≤ s.size := by
  have hl := restOf_length s k
  have h2 := bt_parts h
  obtain ⟨h3, h4, h5⟩ := lst_parts h2
  unfold btS
  rw [if_neg (by omega)]
  unfold need
  omega
theorem btV_length (most : Int) (R : List Nat) : (btV most R).length ≤ 524288 := by
  unfold btV
  split
  · rename_i h
    obtain ⟨_, h4, _⟩ := lst_parts (bt_parts h)
    have := mostN_le most 524288
    unfold btL
    rw [rbits_length]
    omega
  · simp

/- what a call leaves -/
structure StepP (g dd : Nat) (s : ByteArray) (w : World) (e : Ending) (w' : World) : Prop where
  out : ∃ (k : Nat) (c : Int) (f : ByteArray), k ≤ s.size ∧ e = .returned (.bool true) ∧ w'.heap[g]? = some (rdr s k c f) ∧ w'.heap[dd]? = some (drow s k c) ∧ Bt g dd w w'
theorem step_of {g dd k F : Nat} {args : Array Value} {s f : ByteArray} {c : Int} {w : World} (hk : k ≤ s.size)
    (h : Calls Tryz.prog F args w fun e w' => e = .returned (.bool true) ∧ w'.heap[g]? = some (rdr s k c f) ∧ w'.heap[dd]? = some (drow s k c) ∧ Bt g dd w w') : Calls Tryz.prog F args w (StepP g dd s w) :=
  h.mono (fun _ _ h => ⟨k, c, f, hk, h.1, h.2.1, h.2.2.1, h.2.2.2⟩)

set_option maxHeartbeats 2000000 in
theorem reads_over (g dd k : Nat) (s f : ByteArray) (c kk mo wi : Int) (w : World) (hg : w.heap[g]? = some (rdr s k c f)) (hd : w.heap[dd]? = some (drow s k c)) (hne : g ≠ dd) (het : F.Et w) (hg0 : g ≠ 0) (hd0 : dd ≠ 0) (hk : k ≤ s.size) (hs : s.size ≤ 3000) (hc : c ≠ 0) :
    Calls Tryz.prog 6 #[.pointer (some ⟨g, 0, none⟩), .pointer (some ⟨dd, 0, none⟩), .agg #[.int .i64 kk, .int .i64 mo, .int .i64 wi]] w (StepP g dd s w) := by
  have hs' : s.size ≤ 281474976710656 := by omega
  rcases (by omega : kk = 0 ∨ kk = 1 ∨ kk = 2 ∨ kk = 3 ∨ kk = 4 ∨ kk = 5 ∨ kk = 6 ∨ kk = 7 ∨ (kk < 0 ∨ 7 < kk)) with rfl | rfl | rfl | rfl | rfl | rfl | rfl | rfl | hkk
  · exact step_of hk (reads_u8 g dd k k s f f c c 0 mo wi w hg hd hne het hg0 hd0 (by decide) (fun w => dnumber_over s k 1 c w hc) (fun w h => rU8_over g k s f ⟨#[97]⟩ c w h hc))
  · exact step_of hk (reads_u32 g dd k k s f f c c 0 mo wi w hg hd hne het hg0 hd0 (by decide) (fun w => dnumber_over s k 4 c w hc) (fun w h => rU32_over g k s f ⟨#[98]⟩ c w h hc))
  · exact step_of hk (reads_u64 g dd k k s f f c c 0 mo wi w hg hd hne het hg0 hd0 (fun w => dnumber_over s k 8 c w hc) (fun w h => rU64_over g k s f ⟨#[99]⟩ c w h hc))
  · exact step_of hk (reads_blob g dd k k s f f ⟨#[]⟩ c c mo wi w hg hd hne het hg0 hd0 (fun w => dblob_over s k c mo w hc) (fun w h => rBlob_over g k s f ⟨#[100]⟩ mo c w h hc))
  · exact step_of hk (reads_raw g dd k k s f f ⟨#[]⟩ c c mo wi w hg hd hne het hg0 hd0 (fun w => draw_over s k c mo w hc) (fun w h => rRaw_over g k s f ⟨#[101]⟩ mo c w h hc))
  · exact step_of hk (reads_words g dd k k s f f [] c c mo wi w (by decide) hg hd hne het hg0 hd0 (fun w => dwords_over s k c wi mo w hc) (fun w h => (rWords_over g k s f ⟨#[102]⟩ wi mo c w h hc).mono (fun e w' h => ⟨none, 0, h.1, nl_none _, h.2.1, h.2.2⟩)))
  · exact step_of hk (reads_bits g dd k k s f f [] c c mo wi w (by decide) hg hd hne het hg0 hd0 (fun w => dbits_over s k c mo w hc) (fun w h => (rBits_over g k s f ⟨#[103]⟩ mo c w h hc).mono (fun e w' h => ⟨0, none, h.1, by decide, ⟨rfl, .inl ⟨rfl, rfl⟩⟩, h.2.1, h.2.2⟩)))
  · refine step_of hk (reads_end g dd k s f f c c mo wi w hg hd hne het hg0 hd0 (fun w => ?_) (fun w h => (end_over g k s f c w h hc).mono (fun e w' h => ?_)))
    · have h := end_over_d s k c w hk hs'
      rw [fst_not hc, ite_self] at h
      exact h
    · obtain ⟨p, h1, h2, h3, h4⟩ := h
      exact ⟨_, h1, ise_flt (by simpa using hc) h2, h3, h4⟩
  · refine step_of hk (reads_def g dd k s f f c c kk mo wi w hg hd hne het hg0 hd0 hkk (fun w => ?_) (fun w h => (fail_over g k s f ⟨#[104]⟩ c 15 w h hc).mono (fun e w' h' => ?_)))
    · have h := failed_any s k c 15 w
      rw [fst_not hc] at h
      exact h
    · obtain ⟨h1, rfl⟩ := h'
      exact ⟨h1, h, But.refl _ _⟩

set_option maxHeartbeats 2000000 in
theorem reads_good (g dd k : Nat) (s f : ByteArray) (kk mo wi : Int) (w : World) (hg : w.heap[g]? = some (rdr s k 0 f)) (hd : w.heap[dd]? = some (drow s k 0)) (hne : g ≠ dd) (het : F.Et w) (hg0 : g ≠ 0) (hd0 : dd ≠ 0) (hk : k ≤ s.size) (hs : s.size ≤ 3000) :
    Calls Tryz.prog 6 #[.pointer (some ⟨g, 0, none⟩), .pointer (some ⟨dd, 0, none⟩), .agg #[.int .i64 kk, .int .i64 mo, .int .i64 wi]] w (StepP g dd s w) := by
  have hs' : s.size ≤ 281474976710656 := by omega
  have hn : ∀ (n : Nat) (w : World), n ≤ 8 → Calls Tryz.prog 8 #[dv s k 0, .int .i64 (n : Int)] w fun en w' => en = .returned (.tuple #[dv s (nk k n (numC n (restOf s k))) (numC n (restOf s k)), .int .u64 (numX n (restOf s k) : Nat)]) ∧ Below w.heap.size w w' := fun n w h => by
    have h := dnumber_any s k n w hk hs' h
    rw [dN_nk] at h
    exact h
  rcases (by omega : kk = 0 ∨ kk = 1 ∨ kk = 2 ∨ kk = 3 ∨ kk = 4 ∨ kk = 5 ∨ kk = 6 ∨ kk = 7 ∨ (kk < 0 ∨ 7 < kk)) with rfl | rfl | rfl | rfl | rfl | rfl | rfl | rfl | hkk
  · exact step_of (nk_le hk (numC_le hk)) (reads_u8 g dd k _ s f _ 0 _ _ mo wi w hg hd hne het hg0 hd0 (Nat.lt_of_lt_of_le (numX_lt (restOf_lt s k)) (by decide)) (fun w => hn 1 w (by decide)) (fun w h => mp (rU8_any g k s f ⟨#[97]⟩ w h hk hs')))
  · exact step_of (nk_le hk (numC_le hk)) (reads_u32 g dd k _ s f _ 0 _ _ mo wi w hg hd hne het hg0 hd0 (Nat.lt_of_lt_of_le (numX_lt (restOf_lt s k)) (by decide)) (fun w => hn 4 w (by decide)) (fun w h => mp (rU32_any g k s f ⟨#[98]⟩ w h hk hs')))
  · exact step_of (nk_le hk (numC_le hk)) (reads_u64 g dd k _ s f _ 0 _ _ mo wi w hg hd hne het hg0 hd0 (fun w => hn 8 w (by decide)) (fun w h => mp (rU64_any g k s f ⟨#[99]⟩ w h hk hs')))
  · refine step_of (nk_le hk (blob_le hk)) (reads_blob g dd k _ s f _ _ 0 _ mo wi w hg hd hne het hg0 hd0 (fun w => ?_) (fun w h => mp (rBlob_any0 g k s f ⟨#[100]⟩ mo w h hk hs')))
    have h := dblob_any s k mo w hk hs'
    rw [dN_nk] at h
    exact h
  · refine step_of (nk_le hk (raw_le hk)) (reads_raw g dd k _ s f _ _ 0 _ mo wi w hg hd hne het hg0 hd0 (fun w => ?_) (fun w h => mp (rRaw_any g k s f ⟨#[101]⟩ mo w h hk hs')))
    have h := draw_any s k mo w hk hs'
    rw [dN_nk] at h
    exact h
  · refine step_of (nk_le hk (wd_le hk)) (reads_words g dd k _ s f (fN f ⟨#[102]⟩ (wdC wi mo (restOf s k))) _ 0 _ mo wi w (wdV_length wi mo (restOf s k)) hg hd hne het hg0 hd0 (fun w => dwords_any s k wi mo w hk hs') (fun w h => (rWords_any0 g k s f ⟨#[102]⟩ wi mo w h hk hs').mono (fun e w' h => ?_)))
    obtain ⟨a, m, p, h1, h2, h3, h4⟩ := h
    have hm := h2.len
    subst hm
    rw [rdN_nk] at h3
    exact ⟨a, p, h1, h2, h3, h4⟩
  · refine step_of (nk_le hk (bt_le hk)) (reads_bits g dd k _ s f (fN f ⟨#[103]⟩ (btC mo (restOf s k))) _ 0 _ mo wi w (btV_length mo (restOf s k)) hg hd hne het hg0 hd0 (fun w => dbits_any s k mo w hk hs') (fun w h => (rBits_any0 g k s f ⟨#[103]⟩ mo w h hk hs').mono (fun e w' h => ?_)))
    obtain ⟨n, a, h1, h2, h3, h4, h5⟩ := h
    rw [rdN_nk] at h4
    exact ⟨n, a, h1, h2, h3, h4, h5⟩
  · by_cases hlt : k < s.size
    · refine step_of hk (reads_end g dd k s f tENDs 0 14 mo wi w hg hd hne het hg0 hd0 (fun w => ?_) (fun w h => (end_tail g k s f w h hlt).mono (fun e w' h => ?_)))
      · have h := end_over_d s k 0 w hk hs'
        rw [if_pos hlt] at h
        exact h
      · obtain ⟨p, h1, h2, h3, h4⟩ := h
        exact ⟨_, h1, ise_flt (by decide) h2, h3, h4⟩
    · refine step_of hk (reads_end g dd k s f f 0 0 mo wi w hg hd hne het hg0 hd0 (fun w => ?_) (fun w h => (end_all g k s f w h (by omega)).mono (fun e w' h => ?_)))
      · have h := end_over_d s k 0 w hk hs'
        rw [if_neg hlt] at h
        exact h
      · exact ⟨_, h.1, F.IsE.nil _, h.2.1, h.2.2⟩
  · refine step_of hk (reads_def g dd k s f ⟨#[104]⟩ 0 15 kk mo wi w hg hd hne het hg0 hd0 hkk (fun w => failed_any s k 0 15 w) (fun w h => (fail_any g k s f ⟨#[104]⟩ 15 w h (by decide)).mono (fun e w' h' => ?_)))
    obtain ⟨h1, rfl⟩ := h'
    exact ⟨h1, rd_fault h 15 ⟨#[104]⟩, (But.set g 3 _ _).trans (But.set g 4 _ _)⟩

theorem reads_any (g dd k : Nat) (s f : ByteArray) (c kk mo wi : Int) (w : World) (hg : w.heap[g]? = some (rdr s k c f)) (hd : w.heap[dd]? = some (drow s k c)) (hne : g ≠ dd) (het : F.Et w) (hg0 : g ≠ 0) (hd0 : dd ≠ 0) (hk : k ≤ s.size) (hs : s.size ≤ 3000) :
    Calls Tryz.prog 6 #[.pointer (some ⟨g, 0, none⟩), .pointer (some ⟨dd, 0, none⟩), .agg #[.int .i64 kk, .int .i64 mo, .int .i64 wi]] w (StepP g dd s w) := by
  by_cases hc : c = 0
  · subst hc
    exact reads_good g dd k s f kk mo wi w hg hd hne het hg0 hd0 hk hs
  · exact reads_over g dd k s f c kk mo wi w hg hd hne het hg0 hd0 hk hs hc

end Go.Proofs.YtmmhfipdolbinaaGreatDoor
