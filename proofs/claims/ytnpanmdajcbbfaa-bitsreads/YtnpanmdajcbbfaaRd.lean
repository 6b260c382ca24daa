/- The walk of BitsReads. -/
import Derived.Test.YtnpanmdajcbbfaaRc
namespace Go.Proofs.Ytnpanmdajcbbfaa
open Go.RowKit
set_option maxRecDepth 100000
attribute [local go_sem] not_any mf_any field_words

theorem nums_txt (bs : List Nat) (h : ∀ (k x : Nat), bs[k]? = some x → x < 256) : nums (txt bs) = bs := by
  have e : (txt bs).data.toList = bs.map (fun n : Nat => UInt8.ofNat ((n : Int).toNat)) := by
    rw [txt, strOfNums_data, List.map_map]
    rfl
  unfold nums
  rw [e, List.map_map]
  apply List.ext_getElem?
  intro k
  rw [List.getElem?_map]
  cases hk : bs[k]? with
  | none => rfl
  | some x =>
    have := h k x hk
    simp only [Option.map_some, Function.comp_apply, Int.toNat_natCast, UInt8.toNat_ofNat', Option.some.injEq]
    omega

theorem nums_chunks (l : List Bool) : nums (txt (chunks 8 l)) = chunks 8 l := nums_txt _ (fun k x hx => by rw [(chunks_get' hx).2]; exact chunk8_lt _ _)

theorem txt_size (l : List Bool) : (txt (chunks 8 l)).size = need l.length 8 := by rw [← nums_length, nums_chunks, chunks_length]

theorem txt_clean (l : List Bool) : Clean l.length (txt (chunks 8 l)) := by
  intro k x hx j hj hn
  rw [nums_chunks] at hx
  rw [(chunks_get' hx).2, chunk_testBit, List.getD_eq_getElem?_getD, List.getElem?_eq_none (by omega)]
  simp

theorem rbits_txt (l : List Bool) : rbits l.length (txt (chunks 8 l)) = l := by
  apply bool_ext (rbits_length _ _)
  intro j hj
  rw [rbits_length] at hj
  rw [rbits_getD hj, nums_chunks, List.getD_eq_getElem?_getD, chunks_get (by rw [need8]; omega)]
  show (chunk 8 l (j / 8)).testBit (j % 8) = _
  rw [chunk_testBit, Nat.div_add_mod]
  simp [Nat.mod_lt]

theorem bitsOf_chunks (l : List Bool) : bitsOf l.length (chunks 64 l) = l := by
  apply bool_ext (bitsOf_length _ _)
  intro j hj
  rw [bitsOf_length] at hj
  rw [getD_of (bitsOf_get hj), List.getD_eq_getElem?_getD, chunks_get (by rw [need64]; omega)]
  show (chunk 64 l (j / 64)).testBit (j % 64) = _
  rw [chunk_testBit, Nat.div_add_mod]
  simp [Nat.mod_lt]

theorem reads_else (w : World) (n : Int) (s : ByteArray) (m c : Nat) (a : Option Addr) (h : 200 < s.size ∨ (s.size ≤ 200 ∧ 1000 < m)) :
    Calls Try.prog 7 #[.int .i64 n, .string s, .slice a m c] w fun e w' => e = .returned (.bool true) ∧ Below w.heap.size w w' := by
  have hA := fun w => hide1 (awake_any w)
  rcases h with h | ⟨h, h'⟩
  · have h1 : (200 : Int) < (s.size : Int) := by omega
    go_enter Try.func7, Try.ntmps7
    go_wp2_with fail
    refine (hA _).out.mono ?_
    rintro e w1 ⟨rfl, hb⟩
    go_wp2
    go_ret
    exact ⟨rfl, hb⟩
  · have h1 : ¬ (200 : Int) < (s.size : Int) := by omega
    have h2 : (1000 : Int) < (m : Int) := by omega
    go_enter Try.func7, Try.ntmps7
    go_wp2_with fail
    refine (hA _).out.mono ?_
    rintro e w1 ⟨rfl, hb⟩
    go_wp2
    go_ret
    exact ⟨rfl, hb⟩

/- what both readings answer where there are no bits -/
def Wrong (n : Int) (s : ByteArray) (f : Int) : Prop :=
  (f = 2 ∨ f = 11 ∨ f = 13) ∧ (∀ w, Calls Try.prog 28 #[.int .i64 n, .string s] w fun e w' => e = .returned (.tuple #[.agg #[.int .i64 0, .slice none 0 0], .int .i64 f]) ∧ Below w.heap.size w w') ∧
  (∀ w, Calls Try.prog 29 #[.int .i64 n, .string s] w fun e w' => ∃ v, e = .returned (.tuple #[v, .int .i64 f]) ∧ Below w.heap.size w w')

set_option maxHeartbeats 8000000 in
theorem reads_wrong (w : World) (n : Int) (s : ByteArray) (f : Int) (m c : Nat) (a : Option Addr) (l : List Bool) (hl : Bl w m a l) (hs : s.size ≤ 200) (hm : m ≤ 1000) (hf : Wrong n s f) :
    Calls Try.prog 7 #[.int .i64 n, .string s, .slice a m c] w fun e w' => e = .returned (.bool true) ∧ Below w.heap.size w w' := by
  have hA := fun w => hide1 (awake_any w)
  have hOf := fun w h => hide1 (of_any w m c a l h (by omega))
  have hLe := fun w => hide1 (len_bl 0 (.slice none 0 0) w rfl)
  have hBy := fun b w (av : Option Addr) h => hide1 (bytes_any b w m av l h (by omega))
  have hRa := fun b w (av : Option Addr) h => hide1 (raw_any b w m av l h (by omega))
  have hRd : ∀ w, Hid (Calls Try.prog 28 #[.int .i64 m, .string (txt (chunks 8 l))] w fun e w' => ∃ a, e = .returned (.tuple #[.agg #[.int .i64 m, .slice a (need m 64) (need m 64)], .int .i64 0]) ∧ Vc w.heap.size w' m a l ∧ Below w.heap.size w w') := fun w => by
    have h := read_any l.length w (txt (chunks 8 l)) (by rw [hl.len]; omega) (txt_size l) (txt_clean l)
    rw [rbits_txt, hl.len] at h
    exact h
  have hWo : ∀ w (b : Option Addr) c, Nl w (need m 64) b (chunks 64 l) → Hid (Calls Try.prog 12 #[.int .i64 m, .slice b (need m 64) c] w fun e w' => ∃ a, e = .returned (.tuple #[.agg #[.int .i64 m, .slice a (need m 64) (need m 64)], .int .i64 0]) ∧ Vc w.heap.size w' m a l ∧ Below w.heap.size w w') := fun w b c hn => by
    have h := words_any m w c b (chunks 64 l) (by omega) hn (fun k x hx => by rw [(chunks_get' hx).2]; exact chunk64_lt _ _)
    have e := bitsOf_chunks l
    rw [hl.len] at e
    rw [e] at h
    exact h
  have hEq := fun w (a b : Option Addr) h1 h2 => hide1 (equal_any w m m 0 0 a b l l h1 h2 (by omega))
  rw [show decide (l = l) = true by simp] at hEq
  have HL := hide1 hl
  obtain ⟨hf0, hr1, hr2⟩ := hf
  have HR1 := fun w => hide1 (hr1 w)
  have HR2 := fun w => hide1 (hr2 w)
  have h1 : ¬ (200 : Int) < (s.size : Int) := by omega
  have h2 : ¬ (1000 : Int) < (m : Int) := by omega
  clear hl hr1 hr2
  rcases hf0 with rfl | rfl | rfl
  all_goals
    go_enter Try.func7, Try.ntmps7
    go_wp2_with fail
    refine (HR1 _).out.mono ?_
    rintro e w1 ⟨rfl, hb⟩
    have B1 := hb
    have X1 := hide1 (heap_alloc_new w1 (.cells #[.int .i64 0, .slice none 0 0] 26))
    clear hb
    go_wp2_with fail
    refine (HR2 _).out.mono ?_
    rintro e w2 ⟨v2, rfl, hb⟩
    have B2 := (B1.alloc B1.size (.cells #[.int .i64 0, .slice none 0 0] 26)).trans (hb.mono (by have := B1.size; simp; omega))
    have X2 := hide1 ((hb.block _ (by simp)).trans X1.out)
    obtain ⟨c0, c1, _, _, c4⟩ := box2 X2.out
    clear hb B1 X1
    go_wp2_with fail
    refine (hLe _).out.mono ?_
    rintro e w3 ⟨rfl, hb⟩
    have B3 := B2.trans (hb.mono B2.size)
    clear hb B2 c0 c1 c4 X2
    go_wp2_with fail
    refine (hOf _ (HL.out.below B3 (Nat.le_refl _))).out.mono ?_
    rintro e w4 ⟨ax, rfl, hv, hb⟩
    have S4 := hide1 (Als.put (ts := []) ⟨by simp, B3.trans (hb.mono B3.size)⟩ hv)
    clear hv hb B3
    go_wp2_with fail
    refine (hBy _ _ _ (S4.out.vc (t := w4.heap.size) (by simp))).out.mono ?_
    rintro e w5 ⟨rfl, hb⟩
    have S5 := hide1 (S4.out.next hb)
    clear S4 hb
    go_wp2_with fail
    refine (hRd _).out.mono ?_
    rintro e w6 ⟨ay, rfl, hv, hb⟩
    have S6' := hide1 (S5.out.next hb)
    have S6 := hide1 (S6'.out.put hv)
    obtain ⟨c0, c1, c4⟩ := S6'.out.box (t := w4.heap.size) (a := ax) (l := l) (by simp)
    clear S5 hb hv
    go_wp2_with fail
    refine (hRa _ _ _ (S6.out.vc (t := w4.heap.size) (a := ax) (by simp))).out.mono ?_
    rintro e w7 ⟨a7, rfl, hv7, hb⟩
    have S7 := hide1 (S6.out.next hb)
    have N7 := hide1 hv7.nl
    clear S6 S6' hb hv7 c0 c1 c4
    go_wp2_with fail
    refine (hWo _ _ _ N7.out).out.mono ?_
    rintro e w8 ⟨az, rfl, hv, hb⟩
    have S8' := hide1 (S7.out.next hb)
    have S8 := hide1 (S8'.out.put hv)
    obtain ⟨c0, c1, c4⟩ := S8'.out.box (t := w4.heap.size) (a := ax) (l := l) (by simp)
    obtain ⟨d0, d1, d4⟩ := S8'.out.box (t := w6.heap.size) (a := ay) (l := l) (by simp)
    clear S7 hb hv N7
    go_wp2_with fail
    refine (hEq _ _ _ (S8.out.vc (t := w4.heap.size) (a := ax) (by simp)) (S8.out.vc (t := w6.heap.size) (a := ay) (by simp))).out.mono ?_
    rintro e w9 ⟨rfl, hb⟩
    have S9 := hide1 (S8.out.next hb)
    clear S8 S8' hb c0 c1 c4 d0 d1 d4
    obtain ⟨c0, c1, c4⟩ := S9.out.box (t := w4.heap.size) (a := ax) (l := l) (by simp)
    obtain ⟨d0, d1, d4⟩ := S9.out.box (t := w8.heap.size) (a := az) (l := l) (by simp)
    go_wp2_with fail
    refine (hEq _ _ _ (S9.out.vc (t := w4.heap.size) (a := ax) (by simp)) (S9.out.vc (t := w8.heap.size) (a := az) (by simp))).out.mono ?_
    rintro e w10 ⟨rfl, hb⟩
    have B10 := (S9.out.next hb).bl
    clear S9 hb
    go_wp2_with fail
    refine (hA _).out.mono ?_
    rintro e w11 ⟨rfl, hb⟩
    go_wp2
    go_ret
    exact ⟨rfl, B10.trans (hb.mono B10.size)⟩

end Go.Proofs.Ytnpanmdajcbbfaa
