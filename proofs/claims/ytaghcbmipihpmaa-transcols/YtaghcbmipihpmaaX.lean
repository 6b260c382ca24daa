/- Bits of words: Words, and the document's own answer. -/
import Derived.Test.YtaghcbmipihpmaaV
import Derived.Test.YtaghcbmipihpmaaH
namespace Go.Proofs.Ytaghcbmipihpmaa
open Go.RowKit
set_option maxRecDepth 100000
attribute [local go_sem] not_any mf_any field_words

/- the first n bits of words -/
def bitsOf (n : Nat) (ws : List Nat) : List Bool := (List.range n).map (fun i => (ws.getD (i / 64) 0).testBit (i % 64))
theorem bitsOf_length (n : Nat) (ws : List Nat) : (bitsOf n ws).length = n := by simp [bitsOf]
theorem bitsOf_get {n : Nat} {ws : List Nat} {i : Nat} (h : i < n) : (bitsOf n ws)[i]? = some ((ws.getD (i / 64) 0).testBit (i % 64)) := by
  simp [bitsOf, h]

theorem copy_nl {b' : Nat} {W : World} {n c : Nat} {a av : Option Addr} {l0 : List Bool} {ws : List Nat} (hs : Nl W (need n 64) a ws) (hlt : ∀ (k x : Nat), ws[k]? = some x → x < 18446744073709551616) (hd : Vc b' W n av l0) :
    ∃ W', (Builtin.copy_ #[30, 30] 3 #[.slice av (need n 64) (need n 64), .slice a (need n 64) c]).run Try.prog W = .ok (goInt (need n 64)) W' ∧ Wr b' W' n av ws ∧ W.grownBy W' (blk av) := by
  by_cases h0 : n = 0
  · subst h0
    have hl : ws = [] := List.eq_nil_of_length_eq_zero hs.len
    have hl0 : l0 = [] := List.eq_nil_of_length_eq_zero hd.len
    subst hl hl0
    exact ⟨W, run_copy_none (P := Try.prog) W 30 30 3 37 av a _ _ _ c Try.underlying30 size55 (by decide), hd.wr, ⟨rfl, rfl, rfl, Nat.le_refl _, fun _ _ _ => rfl⟩⟩
  · have hp : 0 < need n 64 := by rw [need64]; omega
    obtain ⟨g, rfl, hb, hg, _⟩ := hd.cell hp
    obtain ⟨x, hx⟩ : ∃ x, ws[0]? = some x := ⟨_, List.getElem?_eq_getElem (by rw [hs.len]; exact hp)⟩
    obtain ⟨gs, o, rfl, _⟩ := hs.at' 0 x hx
    have e1 : (u64s ws).length = need n 64 := by simp [u64s, hs.len]
    have e2 : (u64s (chunks 64 l0)).toArray.size = need n 64 := by simp [u64s, chunks_length, hd.len]
    have h := run_copy_row (P := Try.prog) W 30 30 3 37 g 0 (need n 64) (need n 64) ⟨gs, o, none⟩ (need n 64) c (u64s (chunks 64 l0)).toArray 37 (u64s ws) Try.underlying30 size55 hg (by rw [e1]; simp) (by
      intro j v hv
      simp only [u64s, List.getElem?_map, Option.map_eq_some_iff] at hv
      obtain ⟨y, hy, rfl⟩ := hv
      obtain ⟨g', o', e, hc⟩ := hs.at' j y hy
      cases e
      rw [addr_add]
      exact hc) (by rw [e1, e2]; omega) (u64s_one ws)
    rw [e1] at h
    have e3 : (List.take 0 (u64s (chunks 64 l0)).toArray.toList ++ u64s ws ++ List.drop (0 + need n 64) (u64s (chunks 64 l0)).toArray.toList).toArray = (u64s ws).toArray := by
      rw [List.drop_eq_nil_of_le (by simpa using Nat.le_of_eq e2)]
      simp
    rw [e3] at h
    exact ⟨_, h, ⟨hs.len, hlt, .inr ⟨g, rfl, hb, setRow_heap W g _ _ _ _ hg⟩⟩, ⟨rfl, rfl, rfl, by simp, fun k _ hk => setRow_other W g k _ (fun e => hk (by simp [blk, e]))⟩⟩

theorem words_no (n : Int) (w : World) (m c : Nat) (a : Option Addr) (hn : n < 0 ∨ 4194304 < n) :
    Calls Try.prog 26 #[.int .i64 n, .slice a m c] w fun e w' => e = .returned (.tuple #[.agg #[.int .i64 0, .slice none 0 0], .int .i64 2]) ∧ Below w.heap.size w w' := by
  have hA := fun w => hide1 (allowed_any n w)
  have e : (decide ((0 : Int) ≤ n) && decide ((n : Int) ≤ 4194304)) = false := by simp; omega
  rw [e] at hA
  clear e
  go_enter Try.func26, Try.ntmps26
  go_wp2_with (first | (go_at_call 44; refine (hA _).out.mono ?_; rintro e w' ⟨rfl, rfl⟩))
  exact ret_vec2 Try.results26 w.heap.size _ _ _ rfl rfl (heap_alloc_new _ _) rfl ⟨rfl, below_alloc1 _ _⟩

theorem words_shape (n : Nat) (w : World) (m c : Nat) (a : Option Addr) (hn : n ≤ 4194304) (hm : m ≠ need n 64) :
    Calls Try.prog 26 #[.int .i64 n, .slice a m c] w fun e w' => e = .returned (.tuple #[.agg #[.int .i64 0, .slice none 0 0], .int .i64 11]) ∧ Below w.heap.size w w' := by
  have hA := fun w => hide1 (allowed_any n w)
  have hN := fun w => hide1 (needed_any n 64 w hn (.inr rfl))
  have e : (decide ((0 : Int) ≤ n) && decide ((n : Int) ≤ 4194304)) = true := by simp; omega
  rw [e] at hA
  clear e
  have h2 : ((m : Int) != (need n 64 : Int)) = true := by simp; omega
  go_enter Try.func26, Try.ntmps26
  go_wp2_with (first | (go_at_call 44; refine (hA _).out.mono ?_; rintro e w' ⟨rfl, rfl⟩) | (go_at_call 45; refine (hN _).out.mono ?_; rintro e w' ⟨rfl, rfl⟩))
  exact ret_vec2 Try.results26 w.heap.size _ _ _ rfl rfl (heap_alloc_new _ _) rfl ⟨rfl, below_alloc1 _ _⟩

set_option maxHeartbeats 2000000 in
theorem words_any (n : Nat) (w : World) (c : Nat) (a : Option Addr) (ws : List Nat) (hn : n ≤ 4194304) (hs : Nl w (need n 64) a ws) (hlt : ∀ (k x : Nat), ws[k]? = some x → x < 18446744073709551616) :
    Calls Try.prog 26 #[.int .i64 n, .slice a (need n 64) c] w fun e w' => ∃ av, e = .returned (.tuple #[.agg #[.int .i64 n, .slice av (need n 64) (need n 64)], .int .i64 0]) ∧ Vc w.heap.size w' n av (bitsOf n ws) ∧ Below w.heap.size w w' := by
  have hA := fun w => hide1 (allowed_any n w)
  have hN := fun w => hide1 (needed_any n 64 w hn (.inr rfl))
  have hB := fun w => hide1 (blank_any n w hn)
  have hT := fun b w a ws h => hide1 (trim_any b w n a ws hn h)
  have e : (decide ((0 : Int) ≤ n) && decide ((n : Int) ≤ 4194304)) = true := by simp; omega
  rw [e] at hA
  clear e
  have h2 : ((need n 64 : Int) != (need n 64 : Int)) = false := by simp
  have HS := hide1 hs
  have HLT := hide1 hlt
  clear hs hlt
  go_enter Try.func26, Try.ntmps26
  go_wp2_with (first | (go_at_call 44; refine (hA _).out.mono ?_; rintro e w' ⟨rfl, rfl⟩) | (go_at_call 45; refine (hN _).out.mono ?_; rintro e w' ⟨rfl, rfl⟩) | fail)
  refine (hB _).out.mono ?_
  rintro e w1 ⟨av, rfl, hv1, hb⟩
  have hbx := after_alloc hb
  have hbw := below_after hb
  have l0 := lt_heap hbx
  obtain ⟨W', hcp, hWr, hgr⟩ := copy_nl (c := c) (HS.out.below (hbw.alloc (by omega) (.cells #[.int .i64 n, .slice av (need n 64) (need n 64)] 32)) (Nat.le_refl _)) HLT.out (hv1.alloc (.cells #[.int .i64 n, .slice av (need n 64) (need n 64)] 32))
  have hk : ∀ k, blk av = some k → w.heap.size + 1 ≤ k ∧ k < w1.heap.size := fun k hk => by
    have := hv1.blk k hk
    simp at this
    exact this
  have q1 := (hgr.block w1.heap.size (by simp) (fun e => by have := hk _ e.symm; omega)).trans (heap_alloc_new _ _)
  have q2 := (hgr.block w.heap.size (by simp; omega) (fun e => by have := hk _ e.symm; omega)).trans ((Below.heap_alloc _ _ _ l0).trans hbx)
  have q3 := (hbw.alloc (by omega) (.cells #[.int .i64 n, .slice av (need n 64) (need n 64)] 32)).grown hgr (by have := hbw.size; simp; omega) (fun k hk' => by have := hk k hk'; omega)
  obtain ⟨c0, c1, _, _, c4⟩ := box2 q1
  have HTr := hide1 (show Calls Try.prog 47 #[.agg #[.int .i64 n, .slice av (need n 64) (need n 64)]] W' fun e w2 => e = .returned (.tuple #[]) ∧ Vc (w.heap.size + 1) w2 n av (bitsOf n ws) ∧ w2.heap[w1.heap.size]? = some (.cells #[.int .i64 n, .slice av (need n 64) (need n 64)] 32 (0, 0)) ∧
      w2.heap[w.heap.size]? = some (.cells #[.int .i64 0, .slice none 0 0] 32 (0, 0)) ∧ Below w.heap.size w w2 by
    refine (hT _ _ _ _ hWr).out.mono ?_
    rintro e w2 ⟨rfl, hr2, hg2⟩
    refine ⟨rfl, ?_, (hg2.block _ (lt_heap q1) (fun e => by have := hk _ e.symm; omega)).trans q1, (hg2.block _ (lt_heap q2) (fun e => by have := hk _ e.symm; omega)).trans q2, q3.grown hg2 q3.size (fun k e => by have := hk _ e; omega)⟩
    have := trimmed_spec (n := n) (ws := ws) (l := bitsOf n ws) (bitsOf_length _ _) HS.out.len (fun k x hx => ⟨HLT.out k x hx, fun j hj hlt => by
      rw [getD_of (bitsOf_get hlt), Nat.mul_add_div (by omega), Nat.mul_add_mod, Nat.div_eq_of_lt hj, Nat.mod_eq_of_lt hj, Nat.add_zero, List.getD_eq_getElem?_getD, hx]
      rfl⟩)
    rw [this] at hr2
    have h3 := hr2.vc (bitsOf_length _ _)
    simpa using h3)
  clear hWr hgr hb hbx q1 q2 hv1 hk
  go_wp2_with fail
  refine HTr.out.mono ?_
  rintro e w2 ⟨rfl, hv2, t2, s2, b2⟩
  have V2 := hide1 hv2
  obtain ⟨d0, d1, _, _, d4⟩ := box2 t2
  have S2 := hide1 s2
  obtain ⟨r0, r1, r2, r3, r4⟩ := box2 s2
  clear hv2 t2 s2
  go_wp2
  refine ret_vec2 Try.results26 w.heap.size _ _ _ rfl rfl (set_box2 S2.out) rfl ⟨_, rfl, ?_, ?_⟩
  · exact ((V2.out.setCell (by simp) _).setCell (by simp) _).mono (by omega)
  · exact (b2.setCell (Nat.le_refl _) _).setCell (Nat.le_refl _) _

end Go.Proofs.Ytaghcbmipihpmaa
