/- Fields in memory; what a writer writes of them. -/
import Derived.Test.YtmmhfipdolbinaaGreatDoorWf
namespace Go.Proofs.YtmmhfipdolbinaaGreatDoor
open Go.RowKit
set_option maxRecDepth 100000
attribute [local go_sem] not_any mf_any

structure It where
  kind : Int
  x : Nat
  s : ByteArray
  width : Int
  la : Option Addr
  ln : Nat
  lc : Nat
  ws : List Nat
  ba : Option Addr
  bn : Nat
  bc : Nat
  bs : List Bool

structure ItAt (w : World) (g o : Nat) (i : It) : Prop where
  c0 : w.cell? ⟨g, o, none⟩ = some (.int .i64 i.kind)
  c1 : w.cell? ⟨g, o + 1, none⟩ = some (.int .u64 (i.x : Int))
  c2 : w.cell? ⟨g, o + 2, none⟩ = some (.string i.s)
  c3 : w.cell? ⟨g, o + 3, none⟩ = some (.int .i64 i.width)
  c4 : w.cell? ⟨g, o + 4, none⟩ = some (.slice i.la i.ln i.lc)
  c5 : w.cell? ⟨g, o + 5, none⟩ = some (.slice i.ba i.bn i.bc)
structure Its (w : World) (n : Nat) (a : Option Addr) (l : List It) : Prop where
  len : l.length = n
  at' : ∀ (k : Nat) (i : It), l[k]? = some i → (∃ g o, a = some ⟨g, o, none⟩ ∧ ItAt w g (o + k * 6) i) ∧ Nl w i.ln i.la i.ws ∧ Bl w i.bn i.ba i.bs ∧ i.x < 18446744073709551616 ∧ ∀ x ∈ i.ws, x < 18446744073709551616

theorem ItAt.next {w w' : World} {g o : Nat} {i : It} (h : ItAt w g o i) (hB : Below w.heap.size w w') : ItAt w' g o i := by
  have hg := lt_cell h.c0
  exact ⟨(hB.cell (p := ⟨g, o, none⟩) hg).trans h.c0, (hB.cell (p := ⟨g, o + 1, none⟩) hg).trans h.c1, (hB.cell (p := ⟨g, o + 2, none⟩) hg).trans h.c2, (hB.cell (p := ⟨g, o + 3, none⟩) hg).trans h.c3, (hB.cell (p := ⟨g, o + 4, none⟩) hg).trans h.c4, (hB.cell (p := ⟨g, o + 5, none⟩) hg).trans h.c5⟩
theorem Its.next {w w' : World} {n : Nat} {a : Option Addr} {l : List It} (h : Its w n a l) (hB : Below w.heap.size w w') : Its w' n a l :=
  ⟨h.len, fun k i hk => by
    obtain ⟨⟨g, o, h1, h2⟩, h3, h4, h5⟩ := h.at' k i hk
    exact ⟨⟨g, o, h1, h2.next hB⟩, h3.below hB (Nat.le_refl _), h4.below hB (Nat.le_refl _), h5⟩⟩

/- may it be, and is it short? -/
def Fit (i : It) : Prop := i.s.size ≤ 2000 ∧ i.ln ≤ 2000 ∧ i.bn ≤ 2000 ∧ (i.kind = 5 → 1 ≤ i.width ∧ i.width ≤ 64)

/- the bytes of a field -/
def itB (i : It) : List Nat :=
  if i.kind = 0 then fix (i.x % 256) 1 else if i.kind = 1 then fix (i.x % 4294967296) 4 else if i.kind = 2 then fix i.x 8 else
  if i.kind = 3 then fix i.s.size 4 ++ nums i.s else if i.kind = 4 then nums i.s else
  if i.kind = 5 then fix i.ln 4 ++ wordsB ((i.width.toNat + 7) / 8) i.ws else if i.kind = 6 then fix i.bn 4 ++ chunks 8 i.bs else []
theorem itB0 {i : It} (h : i.kind = 0) : itB i = fix (i.x % 256) 1 := by simp [itB, h]
theorem itB1 {i : It} (h : i.kind = 1) : itB i = fix (i.x % 4294967296) 4 := by simp [itB, h]
theorem itB2 {i : It} (h : i.kind = 2) : itB i = fix i.x 8 := by simp [itB, h]
theorem itB3 {i : It} (h : i.kind = 3) : itB i = fix i.s.size 4 ++ nums i.s := by simp [itB, h]
theorem itB4 {i : It} (h : i.kind = 4) : itB i = nums i.s := by simp [itB, h]
theorem itB5 {i : It} (h : i.kind = 5) : itB i = fix i.ln 4 ++ wordsB ((i.width.toNat + 7) / 8) i.ws := by simp [itB, h]
theorem itB6 {i : It} (h : i.kind = 6) : itB i = fix i.bn 4 ++ chunks 8 i.bs := by simp [itB, h]
theorem itB7 {i : It} (h : ¬ i.kind = 0) (h1 : ¬ i.kind = 1) (h2 : ¬ i.kind = 2) (h3 : ¬ i.kind = 3) (h4 : ¬ i.kind = 4) (h5 : ¬ i.kind = 5) (h6 : ¬ i.kind = 6) : itB i = [] := by simp [itB, h, h1, h2, h3, h4, h5, h6]
theorem itB_lt (i : It) : Lt 256 (itB i) := by
  unfold itB
  split
  · exact fix_lt _ _
  split
  · exact fix_lt _ _
  split
  · exact fix_lt _ _
  split
  · exact (fix_lt _ _).append (nums_all _)
  split
  · exact nums_all _
  split
  · exact (fix_lt _ _).append (wordsB_lt _ _)
  split
  · exact (fix_lt _ _).append (chunks8_lt _)
  · exact fun x hx => by cases hx
theorem itB_length {i : It} (hf : Fit i) (hl : i.ws.length = i.ln) (hb : i.bs.length = i.bn) : (itB i).length ≤ 30000 := by
  obtain ⟨f1, f2, f3, f4⟩ := hf
  unfold itB
  split
  · rw [fix_length]; omega
  split
  · rw [fix_length]; omega
  split
  · rw [fix_length]; omega
  split
  · rw [List.length_append, fix_length, nums_length]; omega
  split
  · rw [nums_length]; omega
  split
  · rename_i h5
    have := f4 h5
    rw [List.length_append, fix_length, wordsB_length, hl]
    have h8 : (i.width.toNat + 7) / 8 ≤ 8 := by omega
    have := Nat.mul_le_mul f2 h8
    omega
  split
  · rw [List.length_append, fix_length, chunks8_length, hb, need8]; omega
  · simp

def itsB (l : List It) : List Nat := l.flatMap itB
theorem itsB_snoc (l : List It) (i : It) : itsB (l ++ [i]) = itsB l ++ itB i := by simp [itsB]
theorem itsB_lt : ∀ l, Lt 256 (itsB l)
  | [] => fun x hx => by cases hx
  | i :: l => by
    have h : itsB (i :: l) = itB i ++ itsB l := by simp [itsB]
    rw [h]
    exact (itB_lt i).append (itsB_lt l)
theorem itsB_length : ∀ (l : List It), (∀ i ∈ l, (itB i).length ≤ 30000) → (itsB l).length ≤ 30000 * l.length
  | [], _ => by simp [itsB]
  | i :: l, h => by
    have e : itsB (i :: l) = itB i ++ itsB l := by simp [itsB]
    have h1 := h i (List.mem_cons_self ..)
    have h2 := itsB_length l (fun j hj => h j (List.mem_cons_of_mem _ hj))
    rw [e, List.length_append, List.length_cons]
    omega
theorem take_len {l : List It} {n k : Nat} {w : World} {a : Option Addr} (h : Its w n a l) (hf : ∀ i ∈ l, Fit i) (hn : n ≤ 40) : (itsB (l.take k)).length ≤ 1200000 := by
  have h1 := itsB_length (l.take k) (fun i hi => by
    have hi' := List.mem_of_mem_take hi
    obtain ⟨j, hj⟩ := List.mem_iff_getElem?.1 hi'
    obtain ⟨_, h3, h4, _⟩ := h.at' j i hj
    exact itB_length (hf i hi') h3.len h4.len)
  have h2 : (l.take k).length ≤ 40 := by rw [List.length_take, h.len]; omega
  omega

set_option maxHeartbeats 4000000 in
theorem written_any (w : World) (n c : Nat) (a : Option Addr) (l : List It) (hl : Its w n a l) (hf : ∀ i ∈ l, Fit i) (hn : n ≤ 40) :
    Calls Tryz.prog 7 #[.slice a n c] w fun e w' => e = .returned (.string (txt (itsB l))) ∧ Below w.heap.size w w' := by
  have HI := hide1 hl
  have HF := hide1 hf
  have HT := hide1 (fun k => take_len (k := k) hl hf hn)
  have hnI : (n : Int) ≤ 40 := by omega
  clear hl hf
  go_enter Tryz.func7, Tryz.ntmps7
  go_wp2
  go_loopw [4] (fun i wr => ∃ k : Nat, k ≤ n ∧ i = .int .i64 k ∧ Wr wr w.heap.size (itsB (l.take k)) ∧ Below w.heap.size w wr) (fun i _ => n - (intOf i).toNat)
  case atStart => exact ⟨0, Nat.zero_le _, rfl, Wr.new w, (Below.refl _ _).alloc (Nat.le_refl _) _⟩
  case round =>
    obtain ⟨k, hk, rfl, hW, hB⟩ := hrel
    by_cases hlt : k < n
    · obtain ⟨i, hi⟩ : ∃ i, l[k]? = some i := ⟨_, List.getElem?_eq_getElem (by rw [HI.out.len]; exact hlt)⟩
      have HX : Shy (itsB (l.take (k + 1)) = itsB (l.take k) ++ itB i) := ⟨by rw [List.take_add_one, hi]; exact itsB_snoc _ _⟩
      obtain ⟨⟨g, o, rfl, hat⟩, hnl, hbl, hx64⟩ := (HI.out.next hB).at' k i hi
      have hfi := HF.out i (List.mem_of_getElem? hi)
      obtain ⟨f1, f2, f3, f4⟩ := hfi
      have hlen : (itsB (l.take k)).length ≤ 1000000000 := by have := HT.out k; omega
      obtain ⟨c0, c1, c2, c3, c4, c5⟩ := hat
      have HE : Hid (∀ w2 : World, Wr w2 w.heap.size (itsB (l.take k) ++ itB i) → But w.heap.size (wr.alloc (.cells #[.int .i64 i.kind, .int .u64 (i.x : Int), .string i.s, .int .i64 i.width, .slice i.la i.ln i.lc, .slice i.ba i.bn i.bc] 38)) w2 → Wr w2 w.heap.size (itsB (l.take (k + 1))) ∧ Below w.heap.size w w2) := fun w2 h1 h2 =>
        ⟨by rw [HX.out]; exact h1, h2.below (hB.alloc hB.size _) (Nat.le_refl _) (by have := hB.size; simp; omega)⟩
      have HW := hide1 hW
      have HB := hide1 hB
      have HNL := hide1 hnl
      have HBL := hide1 hbl
      clear hi hW hB hnl hbl HX
      obtain ⟨kind, x, s, width, la, ln, lc, ws, ba, bn, bc, bs⟩ := i
      dsimp only at *
      by_cases h0 : kind = 0
      · subst h0
        rw [itB0 rfl] at HE
        dsimp only at HE
        obtain ⟨y, hy⟩ : ∃ y, y = x % 256 := ⟨_, rfl⟩
        have ey : (x : Int) % 256 = (y : Int) := by omega
        have ey' : IntKind.u8.wrap (x : Int) = (y : Int) := by rw [IntKind.wrap_u8, ey]
        rw [← hy] at HE
        have kk := fun o => hide1 (wU8_any w.heap.size (wr.alloc o) _ y (HW.out.alloc o) hlen (by omega))
        clear hy f4
        go_wp2_with (go_at_call 30; refine (kk _).out.mono ?_; rintro e w2 ⟨rfl, hw2, hbut⟩)
        go_roundw
        case rel => obtain ⟨r1, r2⟩ := HE.out _ hw2 hbut; exact ⟨k + 1, by omega, by go_num, r1, r2⟩
        case measure => simp [intOf]; omega
      by_cases h1 : kind = 1
      · subst h1
        rw [itB1 rfl] at HE
        dsimp only at HE
        obtain ⟨y, hy⟩ : ∃ y, y = x % 4294967296 := ⟨_, rfl⟩
        have ey : (x : Int) % 4294967296 = (y : Int) := by omega
        have ey' : IntKind.u32.wrap (x : Int) = (y : Int) := by rw [IntKind.wrap_u32, ey]
        rw [← hy] at HE
        have kk := fun o => hide1 (wU32_any w.heap.size (wr.alloc o) _ y (HW.out.alloc o) hlen (by omega))
        clear hy f4
        go_wp2_with (go_at_call 31; refine (kk _).out.mono ?_; rintro e w2 ⟨rfl, hw2, hbut⟩)
        go_roundw
        case rel => obtain ⟨r1, r2⟩ := HE.out _ hw2 hbut; exact ⟨k + 1, by omega, by go_num, r1, r2⟩
        case measure => simp [intOf]; omega
      by_cases h2 : kind = 2
      · subst h2
        rw [itB2 rfl] at HE
        dsimp only at HE
        have kk := fun o => hide1 (wU64_any w.heap.size (wr.alloc o) _ x (HW.out.alloc o) hlen)
        clear f4
        go_wp2_with (go_at_call 32; refine (kk _).out.mono ?_; rintro e w2 ⟨rfl, hw2, hbut⟩)
        go_roundw
        case rel => obtain ⟨r1, r2⟩ := HE.out _ hw2 hbut; exact ⟨k + 1, by omega, by go_num, r1, r2⟩
        case measure => simp [intOf]; omega
      by_cases h3 : kind = 3
      · subst h3
        rw [itB3 rfl] at HE
        dsimp only at HE
        have kk := fun o => hide1 (wBlob_any w.heap.size (wr.alloc o) _ s (HW.out.alloc o) hlen (by omega))
        clear f4
        go_wp2_with (go_at_call 33; refine (kk _).out.mono ?_; rintro e w2 ⟨rfl, hw2, hbut⟩)
        go_roundw
        case rel => obtain ⟨r1, r2⟩ := HE.out _ hw2 hbut; exact ⟨k + 1, by omega, by go_num, r1, r2⟩
        case measure => simp [intOf]; omega
      by_cases h4 : kind = 4
      · subst h4
        rw [itB4 rfl] at HE
        dsimp only at HE
        have kk := fun o => hide1 (wRaw_any w.heap.size (wr.alloc o) _ s (HW.out.alloc o) hlen (by omega))
        clear f4
        go_wp2_with (go_at_call 34; refine (kk _).out.mono ?_; rintro e w2 ⟨rfl, hw2, hbut⟩)
        go_roundw
        case rel => obtain ⟨r1, r2⟩ := HE.out _ hw2 hbut; exact ⟨k + 1, by omega, by go_num, r1, r2⟩
        case measure => simp [intOf]; omega
      by_cases h5 : kind = 5
      · subst h5
        rw [itB5 rfl] at HE
        dsimp only at HE
        obtain ⟨q1, q2⟩ := f4 rfl
        obtain ⟨wd, rfl⟩ : ∃ wd : Nat, width = wd := ⟨width.toNat, by omega⟩
        rw [Int.toNat_natCast] at HE
        have kk := fun o => hide1 (wWords_any w.heap.size (wr.alloc o) _ wd ln lc la ws (HW.out.alloc o) hlen (by omega) (by omega) (by omega) (HNL.out.below ((Below.refl _ _).alloc (Nat.le_refl _) o) (Nat.le_refl _)))
        clear f4 q1 q2
        go_wp2_with (go_at_call 35; refine (kk _).out.mono ?_; rintro e w2 ⟨rfl, hw2, hbut⟩)
        go_roundw
        case rel => obtain ⟨r1, r2⟩ := HE.out _ hw2 hbut; exact ⟨k + 1, by omega, by go_num, r1, r2⟩
        case measure => simp [intOf]; omega
      by_cases h6 : kind = 6
      · subst h6
        rw [itB6 rfl] at HE
        dsimp only at HE
        have kk := fun o => hide1 (of_any (wr.alloc o) bn bc ba bs (HBL.out.below ((Below.refl _ _).alloc (Nat.le_refl _) o) (Nat.le_refl _)) (by omega))
        clear f4
        go_wp2_with fail
        refine (kk _).out.mono ?_
        rintro e w2 ⟨av, rfl, hv, hb2⟩
        have hW2 := hide1 ((HW.out.alloc _).below hb2)
        have HV := hide1 hv
        have k3 := fun o => hide1 (wBits_any w.heap.size (w2.alloc o) _ _ bn av bs (hW2.out.alloc o) hlen (HV.out.alloc o) (by omega))
        have HB2 := hide1 hb2
        clear kk hb2 hv
        go_wp2_with (go_at_call 37; refine (k3 _).out.mono ?_; rintro e w3 ⟨rfl, hw3, hbut3⟩)
        go_roundw
        case rel => obtain ⟨r1, r2⟩ := HE.out _ hw3 (((But.of_below HB2.out).trans (But.of_below ((Below.refl _ _).alloc (Nat.le_refl _) _))).trans hbut3); exact ⟨k + 1, by omega, by go_num, r1, r2⟩
        case measure => simp [intOf]; omega
      have e0 : (kind == 0) = false := by rw [beq_eq_false_iff_ne]; exact h0
      have e1 : (kind == 1) = false := by rw [beq_eq_false_iff_ne]; exact h1
      have e2 : (kind == 2) = false := by rw [beq_eq_false_iff_ne]; exact h2
      have e3 : (kind == 3) = false := by rw [beq_eq_false_iff_ne]; exact h3
      have e4 : (kind == 4) = false := by rw [beq_eq_false_iff_ne]; exact h4
      have e5 : (kind == 5) = false := by rw [beq_eq_false_iff_ne]; exact h5
      have e6 : (kind == 6) = false := by rw [beq_eq_false_iff_ne]; exact h6
      rw [itB7 h0 h1 h2 h3 h4 h5 h6, List.append_nil] at HE
      clear f4 h0 h1 h2 h3 h4 h5 h6
      go_wp2
      go_roundw
      case rel => obtain ⟨r1, r2⟩ := HE.out _ (HW.out.alloc _) (But.refl _ _); exact ⟨k + 1, by omega, by go_num, r1, r2⟩
      case measure => simp [intOf]; omega
    · obtain rfl : k = n := by omega
      rw [List.take_of_length_le (by rw [HI.out.len]; omega)] at hW
      have hlen : (itsB l).length ≤ 1000000000 := by have := HT.out k; rw [List.take_of_length_le (by rw [HI.out.len]; omega)] at this; omega
      have kB := hide1 (wBytes_any w.heap.size wr _ hW hlen)
      have HB := hide1 hB
      clear hW hB hlen
      go_wp2_with (go_at_call 38; refine kB.out.mono ?_; rintro e w2 ⟨rfl, hb2⟩)
      go_ret
      exact ⟨rfl, HB.out.trans (hb2.mono HB.out.size)⟩
end Go.Proofs.YtmmhfipdolbinaaGreatDoor
