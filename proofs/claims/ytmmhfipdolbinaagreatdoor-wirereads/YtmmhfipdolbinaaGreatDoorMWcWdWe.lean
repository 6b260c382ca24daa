/- A writer: pieces one behind the other. A writer's fields. A writer's words and bits; all that was written. -/
import Derived.Test.YtmmhfipdolbinaaGreatDoorWb
import Derived.Test.YtmmhfipdolbinaaGreatDoorFr
namespace Go.Proofs.YtmmhfipdolbinaaGreatDoor
open Go.RowKit
set_option maxRecDepth 100000
attribute [local go_sem] not_any mf_any

def cat : List ByteArray → List Nat
  | [] => []
  | p :: ps => cat ps ++ nums p
theorem cat_lt : ∀ ps, Lt 256 (cat ps)
  | [] => fun x hx => by cases hx
  | p :: ps => (cat_lt ps).append (nums_all p)

/- pieces in memory, the last one first -/
def Pcs (w : World) (B : Nat) : List ByteArray → Option Addr → Prop
  | [], a => a = none
  | p :: ps, a => ∃ g b, a = some ⟨g, 0, none⟩ ∧ B ≤ g ∧ w.heap[g]? = some (.cells #[.pointer b, .string p, .int .i64 (((cat (p :: ps)).length : Nat) : Int)] 124 (0, 0)) ∧ (p.size ≠ 0 ∧ ∀ q, b = some q → q.block < g) ∧ Pcs w B ps b
theorem Pcs.keep {w w' : World} {B : Nat} (h : ∀ g, B ≤ g → g < w.heap.size → w'.heap[g]? = w.heap[g]?) : ∀ {ps a}, Pcs w B ps a → Pcs w' B ps a
  | [], _, hp => hp
  | _ :: _, _, ⟨g, b, h1, h2, h3, h5, h4⟩ => ⟨g, b, h1, h2, (h g h2 (lt_heap h3)).trans h3, h5, Pcs.keep h h4⟩
theorem Pcs.last {w : World} {B : Nat} : ∀ {ps a}, Pcs w B ps a → ∀ q, a = some q → q.block < w.heap.size
  | [], _, hp, q, hq => by rw [hp] at hq; cases hq
  | _ :: _, _, ⟨g, b, h1, h2, h3, _, _⟩, q, hq => by rw [h1] at hq; cases hq; exact lt_heap h3

def wrt (a : Option Addr) : Obj := .cells #[.pointer a] 73 (0, 0)
/- a writer that has written these bytes -/
def Wr (w : World) (g : Nat) (L : List Nat) : Prop := ∃ a ps, cat ps = L ∧ w.heap[g]? = some (wrt a) ∧ Pcs w (g + 1) ps a
theorem Wr.below {w w' : World} {g : Nat} {L : List Nat} (h : Wr w g L) (hb : Below w.heap.size w w') : Wr w' g L := by
  obtain ⟨a, ps, h1, h2, h3⟩ := h
  exact ⟨a, ps, h1, (hb.block g (lt_heap h2)).trans h2, h3.keep (fun k _ hk => hb.block k hk)⟩
theorem Wr.lt {w : World} {g : Nat} {L : List Nat} (h : Wr w g L) : Lt 256 L := by
  obtain ⟨a, ps, h1, h2, h3⟩ := h
  rw [← h1]
  exact cat_lt ps
theorem Wr.size {w : World} {g : Nat} {L : List Nat} (h : Wr w g L) : g < w.heap.size := by
  obtain ⟨a, ps, h1, h2, h3⟩ := h
  exact lt_heap h2
theorem Wr.new (w : World) : Wr (w.alloc (wrt none)) w.heap.size [] := ⟨none, [], rfl, heap_alloc_new _ _, rfl⟩

theorem conv_own {base n : Nat} {v : Value} {w : World} {l : List Nat} (hn : l.length = n) (h : w.ownsRow base 5 1 v n (u8s l)) :
    (convert 119 9 v).run Tryz.prog w = .ok (.string (txt l)) w := by
  obtain ⟨h1, ⟨rfl, hn0⟩ | ⟨g, cap, cur, rfl, _⟩⟩ := id h
  · have e : l = [] := List.length_eq_zero_iff.1 (by omega)
    rw [e]
    exact run_convert_bytes_nil (P := Tryz.prog) w 119 5 Tryz.underlying119 Tryz.underlying5 0 0 9 Tryz.underlying9
  · refine text_of hn (fun j x hj => ?_)
    have := h.cells (g := g) rfl j (.int .u8 (x : Int)) (by simp [u8s, hj])
    rwa [Addr.add_lit, Nat.zero_add] at this

theorem add_nothing (g : Nat) (w : World) : Calls Tryz.prog 70 #[.pointer (some ⟨g, 0, none⟩), .string ⟨#[]⟩] w fun e w' => e = .returned (.tuple #[]) ∧ w' = w := by
  go_enter Tryz.func70, Tryz.ntmps70
  go_wp2
  refine bodyPost_ret (results_none rfl _ _ _) rfl ?_
  exact ⟨rfl, rfl⟩

theorem ne_empty {t : ByteArray} (h : t.size ≠ 0) : t.toList.isEmpty = false := by
  rw [Lib.toList_data, List.isEmpty_eq_false_iff]
  intro e
  exact h (by rw [Lib.size_eq, e]; rfl)

set_option maxHeartbeats 1000000 in
theorem add_some (g : Nat) (w : World) (L : List Nat) (t : ByteArray) (h : Wr w g L) (ht : t.size ≠ 0) (hL : L.length + t.size ≤ 1099511627776) :
    Calls Tryz.prog 70 #[.pointer (some ⟨g, 0, none⟩), .string t] w fun e w' => e = .returned (.tuple #[]) ∧ Wr w' g (L ++ nums t) ∧ But g w w' := by
  obtain ⟨a, ps, rfl, hg, hp⟩ := h
  have ht' := ne_empty ht
  have c0 : w.cell? ⟨g, 0, none⟩ = some (.pointer a) := by rw [cell_of_row w g 0 _ _ _ hg]; rfl
  have f0 := frozen_of_row w g 0 _ _ hg
  have lt := lt_heap hg
  have HG := hide1 hg
  have HP := hide1 hp
  have hend : ∀ (E : Int) (o : Obj), o = .cells #[.pointer a, .string t, .int .i64 E] 124 (0, 0) → E = (((cat (t :: ps)).length : Nat) : Int) → Wr ((w.setCell ⟨g, 0, none⟩ (.pointer (some ⟨w.heap.size, 0, none⟩))).alloc o) g (cat ps ++ nums t) ∧ But g w ((w.setCell ⟨g, 0, none⟩ (.pointer (some ⟨w.heap.size, 0, none⟩))).alloc o) := by
    rintro E o rfl rfl
    have hz : (w.setCell ⟨g, 0, none⟩ (.pointer (some ⟨w.heap.size, 0, none⟩))).heap.size = w.heap.size := by simp
    refine ⟨⟨_, t :: ps, rfl, ?_, w.heap.size, a, rfl, by omega, ?_, ⟨ht, hp.last⟩, ?_⟩, ?_⟩
    · refine (Below.heap_alloc _ _ _ (by rw [hz]; exact lt)).trans ?_
      rw [heap_setCell_same _ g 0 _ _ _ hg]; rfl
    · have h9 := heap_alloc_new (w.setCell ⟨g, 0, none⟩ (.pointer (some ⟨w.heap.size, 0, none⟩))) (.cells #[.pointer a, .string t, .int .i64 (((cat (t :: ps)).length : Nat) : Int)] 124 (0, 0))
      rw [hz] at h9
      exact h9
    · exact hp.keep (fun k hk1 hk2 => (Below.heap_alloc _ _ _ (by rw [hz]; exact hk2)).trans (Below.heap_setCell _ _ _ _ (by simp; omega)))
    · exact (But.set g 0 w _).trans (But.of_below ((Below.refl _ _).alloc (Nat.le_refl _) _))
  have HE := hide1 hend
  clear hend hg hp
  match ps with
  | [] =>
    obtain rfl := HP.out
    go_enter Tryz.func70, Tryz.ntmps70
    go_wp2
    go_end0
    exact ⟨rfl, HE.out _ _ rfl (by simp [cat, nums_length])⟩
  | p :: ps =>
    obtain ⟨gp, b, rfl, hgp, hpc, _, hrest⟩ := HP.out
    have cp : w.cell? ⟨gp, 2, none⟩ = some (.int .i64 (((cat (p :: ps)).length : Nat) : Int)) := by rw [cell_of_row w gp 2 _ _ _ hpc]; rfl
    obtain ⟨z, hz⟩ : ∃ z, z = (cat (p :: ps)).length := ⟨_, rfl⟩
    rw [← hz] at cp hL
    have HZ : Shy (z = (cat (p :: ps)).length) := ⟨hz⟩
    clear hz hpc hrest HP
    go_enter Tryz.func70, Tryz.ntmps70
    go_wp2
    go_end0
    refine ⟨rfl, HE.out _ _ rfl ?_⟩
    rw [cat, List.length_append, ← HZ.out, nums_length, Int.natCast_add, Int.add_comm]

theorem add_any (g : Nat) (w : World) (L : List Nat) (t : ByteArray) (h : Wr w g L) (hL : L.length + t.size ≤ 1099511627776) :
    Calls Tryz.prog 70 #[.pointer (some ⟨g, 0, none⟩), .string t] w fun e w' => e = .returned (.tuple #[]) ∧ Wr w' g (L ++ nums t) ∧ But g w w' := by
  by_cases ht : t.size = 0
  · have hs : t = ⟨#[]⟩ := by
      apply ByteArray.ext
      exact Array.eq_empty_of_size_eq_zero ht
    subst hs
    refine (add_nothing g w).mono ?_
    rintro e w' ⟨rfl, rfl⟩
    exact ⟨rfl, by rw [nums_empty, List.append_nil]; exact h, But.refl _ _⟩
  · exact add_some g w L t h ht hL

theorem But.wr {w w' : World} {g : Nat} (h : But g w w') {w0 : World} {B : Nat} (hb : Below B w0 w) (hB : B ≤ g) (hs : B ≤ w.heap.size) : Below B w0 w' := h.below hb hB hs

set_option maxHeartbeats 1000000 in
theorem number_any (g : Nat) (w : World) (L : List Nat) (x n : Nat) (h : Wr w g L) (hL : L.length ≤ 1000000000) (hn : n ≤ 8) :
    Calls Tryz.prog 68 #[.pointer (some ⟨g, 0, none⟩), .int .u64 (x : Int), .int .i64 (n : Int)] w fun e w' => e = .returned (.tuple #[]) ∧ Wr w' g (L ++ fix x n) ∧ But g w w' := by
  have k1 := hide1 (appendNumber_any w.heap.size w (.slice none 0 0) 0 x n [] (World.ownsRow_nil _ _ _ _) rfl (Nat.le_refl _) hn (by omega))
  have HW := hide1 h
  clear h
  go_enter Tryz.func68, Tryz.ntmps68
  go_wp2_with fail
  refine k1.out.mono ?_
  rintro e w1 ⟨v', rfl, hrow, hb⟩
  rw [Nat.zero_add, List.nil_append] at hrow
  have hcv := conv_own (fix_length n x) hrow
  have hsz : (txt (fix x n)).size = n := by rw [txt_size (fix_lt n x), fix_length]
  have k2 := hide1 (add_any g w1 L (txt (fix x n)) (HW.out.below hb) (by omega))
  rw [nums_txt (fix_lt n x)] at k2
  obtain ⟨la, lc, rfl⟩ := row_form hrow
  have HB := hide1 hb
  clear hrow k1 hb hsz
  go_wp2_with (go_at_call 70; refine k2.out.mono ?_; rintro e w2 ⟨rfl, hw2, hbut⟩)
  go_end0
  exact ⟨rfl, hw2, (But.of_below HB.out).trans hbut⟩

set_option maxHeartbeats 1000000 in
theorem list_any (g : Nat) (w : World) (L : List Nat) (n : Nat) (t : ByteArray) (h : Wr w g L) (hL : L.length ≤ 1000000000) (hn : n ≤ 1000000000) (ht : t.size ≤ 1000000000) :
    Calls Tryz.prog 69 #[.pointer (some ⟨g, 0, none⟩), .int .i64 (n : Int), .string t] w fun e w' => e = .returned (.tuple #[]) ∧ Wr w' g (L ++ (fix n 4 ++ nums t)) ∧ But g w w' := by
  have k1 := hide1 (appendNumber_any w.heap.size w (.slice none 0 0) 0 n 4 [] (World.ownsRow_nil _ _ _ _) rfl (Nat.le_refl _) (by omega) (by omega))
  have HW := hide1 h
  have hnw : IntKind.u64.wrap (n : Int) = (n : Int) := by rw [IntKind.wrap_u64]; omega
  clear h
  go_enter Tryz.func69, Tryz.ntmps69
  go_wp2_with fail
  refine k1.out.mono ?_
  rintro e w1 ⟨v', rfl, hrow, hb⟩
  rw [Nat.zero_add, List.nil_append] at hrow
  have hcv := conv_own (fix_length 4 n) hrow
  have hsz : (txt (fix n 4)).size = 4 := by rw [txt_size (fix_lt 4 n), fix_length]
  have hsz2 : (txt (fix n 4) ++ t).size = 4 + t.size := by rw [ByteArray.size_append, hsz]
  have k2 := hide1 (add_any g w1 L (txt (fix n 4) ++ t) (HW.out.below hb) (by omega))
  rw [nums_append, nums_txt (fix_lt 4 n)] at k2
  obtain ⟨la, lc, rfl⟩ := row_form hrow
  have HB := hide1 hb
  have hz1 : ¬ (9223372036854775807 < (txt (fix n 4)).size + t.size) := by omega
  clear hrow k1 hb hsz hsz2
  go_wp2_with (go_at_call 70; refine k2.out.mono ?_; rintro e w2 ⟨rfl, hw2, hbut⟩)
  go_end0
  exact ⟨rfl, hw2, (But.of_below HB.out).trans hbut⟩
end Go.Proofs.YtmmhfipdolbinaaGreatDoor

namespace Go.Proofs.YtmmhfipdolbinaaGreatDoor
open Go.RowKit
set_option maxRecDepth 100000
attribute [local go_sem] not_any mf_any

theorem wU8_any (g : Nat) (w : World) (L : List Nat) (x : Nat) (h : Wr w g L) (hL : L.length ≤ 1000000000) (hx : x < 256) :
    Calls Tryz.prog 30 #[.pointer (some ⟨g, 0, none⟩), .int .u8 (x : Int)] w fun e w' => e = .returned (.tuple #[]) ∧ Wr w' g (L ++ fix x 1) ∧ But g w w' := by
  have k := hide1 (number_any g w L x 1 h hL (by omega))
  have e1 : IntKind.u64.wrap (x : Int) = (x : Int) := by rw [IntKind.wrap_u64]; omega
  clear h hL
  go_enter Tryz.func30, Tryz.ntmps30
  go_wp2_with (go_at_call 68; refine k.out.mono ?_; rintro e w' ⟨rfl, hw, hb⟩)
  go_end0
  exact ⟨rfl, hw, hb⟩
theorem wU32_any (g : Nat) (w : World) (L : List Nat) (x : Nat) (h : Wr w g L) (hL : L.length ≤ 1000000000) (hx : x < 4294967296) :
    Calls Tryz.prog 31 #[.pointer (some ⟨g, 0, none⟩), .int .u32 (x : Int)] w fun e w' => e = .returned (.tuple #[]) ∧ Wr w' g (L ++ fix x 4) ∧ But g w w' := by
  have k := hide1 (number_any g w L x 4 h hL (by omega))
  have e1 : IntKind.u64.wrap (x : Int) = (x : Int) := by rw [IntKind.wrap_u64]; omega
  clear h hL
  go_enter Tryz.func31, Tryz.ntmps31
  go_wp2_with (go_at_call 68; refine k.out.mono ?_; rintro e w' ⟨rfl, hw, hb⟩)
  go_end0
  exact ⟨rfl, hw, hb⟩
theorem wU64_any (g : Nat) (w : World) (L : List Nat) (x : Nat) (h : Wr w g L) (hL : L.length ≤ 1000000000) :
    Calls Tryz.prog 32 #[.pointer (some ⟨g, 0, none⟩), .int .u64 (x : Int)] w fun e w' => e = .returned (.tuple #[]) ∧ Wr w' g (L ++ fix x 8) ∧ But g w w' := by
  have k := hide1 (number_any g w L x 8 h hL (by omega))
  clear h hL
  go_enter Tryz.func32, Tryz.ntmps32
  go_wp2_with (go_at_call 68; refine k.out.mono ?_; rintro e w' ⟨rfl, hw, hb⟩)
  go_end0
  exact ⟨rfl, hw, hb⟩
theorem wBlob_any (g : Nat) (w : World) (L : List Nat) (t : ByteArray) (h : Wr w g L) (hL : L.length ≤ 1000000000) (ht : t.size ≤ 1000000000) :
    Calls Tryz.prog 33 #[.pointer (some ⟨g, 0, none⟩), .string t] w fun e w' => e = .returned (.tuple #[]) ∧ Wr w' g (L ++ (fix t.size 4 ++ nums t)) ∧ But g w w' := by
  have k := hide1 (list_any g w L t.size t h hL ht ht)
  clear h hL
  go_enter Tryz.func33, Tryz.ntmps33
  go_wp2_with (go_at_call 69; refine k.out.mono ?_; rintro e w' ⟨rfl, hw, hb⟩)
  go_end0
  exact ⟨rfl, hw, hb⟩
theorem wRaw_any (g : Nat) (w : World) (L : List Nat) (t : ByteArray) (h : Wr w g L) (hL : L.length ≤ 1000000000) (ht : t.size ≤ 1000000000) :
    Calls Tryz.prog 34 #[.pointer (some ⟨g, 0, none⟩), .string t] w fun e w' => e = .returned (.tuple #[]) ∧ Wr w' g (L ++ nums t) ∧ But g w w' := by
  have k := hide1 (clone_any t w (by omega))
  have HW := hide1 h
  clear h
  go_enter Tryz.func34, Tryz.ntmps34
  go_wp2_with fail
  refine k.out.mono ?_
  rintro e w1 ⟨rfl, hb⟩
  have k2 := hide1 (add_any g w1 L t (HW.out.below hb) (by omega))
  clear k hL ht
  go_wp2_with (go_at_call 70; refine k2.out.mono ?_; rintro e w' ⟨rfl, hw, hbt⟩)
  go_end0
  exact ⟨rfl, hw, (But.of_below hb).trans hbt⟩

end Go.Proofs.YtmmhfipdolbinaaGreatDoor

namespace Go.Proofs.YtmmhfipdolbinaaGreatDoor
open Go.RowKit
set_option maxRecDepth 100000
attribute [local go_sem] not_any mf_any

/- words in so many bytes each -/
def wordsB (n : Nat) (ws : List Nat) : List Nat := ws.flatMap (fun x => fix x n)
theorem wordsB_snoc (n : Nat) (ws : List Nat) (x : Nat) : wordsB n (ws ++ [x]) = wordsB n ws ++ fix x n := by simp [wordsB]
theorem wordsB_length (n : Nat) : ∀ ws, (wordsB n ws).length = ws.length * n
  | [] => by simp [wordsB]
  | x :: ws => by
    have h : wordsB n (x :: ws) = fix x n ++ wordsB n ws := by simp [wordsB]
    rw [h, List.length_append, fix_length, wordsB_length n ws, List.length_cons, Nat.add_mul]; omega
theorem wordsB_lt (n : Nat) : ∀ ws, Lt 256 (wordsB n ws)
  | [] => fun x hx => by cases hx
  | x :: ws => by
    have h : wordsB n (x :: ws) = fix x n ++ wordsB n ws := by simp [wordsB]
    rw [h]
    exact (fix_lt n x).append (wordsB_lt n ws)

set_option maxHeartbeats 400000 in
theorem wWords_any (g : Nat) (w : World) (L : List Nat) (wd m c : Nat) (a : Option Addr) (ws : List Nat) (h : Wr w g L) (hL : L.length ≤ 1000000000) (h1 : 1 ≤ wd) (h2 : wd ≤ 64) (hm : m ≤ 100000) (hl : Nl w m a ws) :
    Calls Tryz.prog 35 #[.pointer (some ⟨g, 0, none⟩), .int .i64 (wd : Int), .slice a m c] w fun e w' => e = .returned (.tuple #[]) ∧ Wr w' g (L ++ (fix m 4 ++ wordsB ((wd + 7) / 8) ws)) ∧ But g w w' := by
  obtain ⟨n, hn⟩ : ∃ n, n = (wd + 7) / 8 := ⟨_, rfl⟩
  have hn8 : n ≤ 8 := by omega
  have k0 := fun w => hide1 (isWidth_any (wd : Int) w)
  rw [show (decide (1 ≤ (wd : Int)) && decide ((wd : Int) ≤ 64)) = true by simp; omega] at k0
  have k1 := fun w => hide1 (bytesFor_any wd w (by omega))
  rw [← hn] at k1 ⊢
  obtain ⟨i0, hi, hz0, hz1, hz2⟩ := info_parts info5
  have hmn : m * n ≤ 800000 := Nat.le_trans (Nat.mul_le_mul hm hn8) (by omega)
  obtain ⟨mn, hmn'⟩ : ∃ mn, mn = m * n := ⟨_, rfl⟩
  rw [← hmn'] at hmn
  have emn : (m : Int) * (n : Int) = (mn : Int) := by rw [hmn', Int.natCast_mul]
  have emn2 : IntKind.i64.wrap ((m : Int) * (n : Int)) = (mn : Int) := by rw [emn, IntKind.wrap_i64]; omega
  have emn3 : wrap64 ((m : Int) * (n : Int)) = (mn : Int) := by rw [emn]; unfold wrap64; omega
  have hb1 : i0.bytes * mn ≤ 281474976710656 := by rw [hz2, Nat.one_mul]; exact Nat.le_trans hmn (by decide)
  have hb2 : mn ≤ maxLen := Nat.le_trans hmn (by decide)
  obtain ⟨w9, hmk, hrow0, hg0⟩ := run_make_own (P := Tryz.prog) w w.heap.size 119 5 i0 (.int .u8 0) 1 Tryz.underlying119 hi hz0 hz1 .i64 .i64 mn hb1 hb2 (Nat.le_refl _)
  have HL := hide1 hl
  have HW := hide1 h
  have HR := hide1 hrow0
  have HG := hide1 hg0
  have HMN := hide1 hmn'
  have h1' : 1 ≤ (wd : Int) := by omega
  clear h hl hrow0 hg0 hmn' emn hn
  go_enter Tryz.func35, Tryz.ntmps35
  go_wp2_with fail
  refine (k0 _).out.mono ?_
  rintro e w1 ⟨rfl, hw1⟩
  cases hw1
  clear k0
  go_wp2_with fail
  refine (k1 _).out.mono ?_
  rintro e w1 ⟨rfl, hw1⟩
  cases hw1
  clear k1
  go_wp2
  clear hmk
  go_loopw [7, 22] (fun ov i wr => ∃ k : Nat, k ≤ m ∧ i = .int .i64 k ∧ wr.ownsRow w.heap.size 5 1 ov (k * n) (u8s (wordsB n (ws.take k))) ∧ Below w.heap.size w wr) (fun _ i _ => m - (intOf i).toNat)
  case atStart =>
    refine ⟨0, Nat.zero_le _, rfl, ?_, (Below.refl _ _).grown HG.out (Nat.le_refl _) (fun b hb => by cases hb)⟩
    rw [Nat.zero_mul]
    exact HR.out
  case round =>
    obtain ⟨k, hk, rfl, hrow, hB⟩ := hrel
    obtain ⟨la, lc, rfl⟩ := row_form hrow
    by_cases hlt : k < m
    · obtain ⟨x, hx⟩ : ∃ x, ws[k]? = some x := ⟨_, List.getElem?_eq_getElem (by rw [HL.out.len]; exact hlt)⟩
      obtain ⟨gl, o, rfl, hcl⟩ := (HL.out.below hB (Nat.le_refl _)).at' k x hx
      have hkn : k * n ≤ 800000 := Nat.le_trans (Nat.mul_le_mul hk hn8) (by omega)
      have hlen : (wordsB n (ws.take k)).length = k * n := by rw [wordsB_length, List.length_take, HL.out.len, Nat.min_eq_left hk]
      have kA := hide1 (appendNumber_any w.heap.size wr _ (k * n) x n _ hrow hlen hB.size hn8 (Nat.le_trans hkn (by decide)))
      have HX : Shy (wordsB n (ws.take (k + 1)) = wordsB n (ws.take k) ++ fix x n) := ⟨by rw [List.take_add_one, hx]; exact wordsB_snoc _ _ _⟩
      have HBB := hide1 hB
      clear hx hrow hkn hlen hB
      go_wp2_with (go_at_call 71; refine kA.out.mono ?_; rintro e w2 ⟨v2, rfl, hrow2, hb2⟩)
      go_roundw
      case rel =>
        refine ⟨k + 1, by omega, by go_num, ?_, HBB.out.trans hb2⟩
        rw [HX.out, Nat.succ_mul]
        exact hrow2
      case measure => simp [intOf]; omega
    · obtain rfl : k = m := by omega
      rw [List.take_of_length_le (by rw [HL.out.len]; omega)] at hrow
      have hlen : (wordsB n ws).length = k * n := by rw [wordsB_length, HL.out.len]
      have hcv := conv_own hlen hrow
      have hsz : (txt (wordsB n ws)).size ≤ 800000 := by rw [txt_size (wordsB_lt n ws), hlen, ← HMN.out]; exact hmn
      have kL := hide1 (list_any g wr L k (txt (wordsB n ws)) (HW.out.below hB) hL (by omega) (Nat.le_trans hsz (by decide)))
      rw [nums_txt (wordsB_lt n ws)] at kL
      have HBB := hide1 hB
      clear hrow hlen hsz hB
      go_wp2_with (go_at_call 69; refine kL.out.mono ?_; rintro e w2 ⟨rfl, hw2, hbut⟩)
      go_end0
      exact ⟨rfl, hw2, (But.of_below HBB.out).trans hbut⟩
end Go.Proofs.YtmmhfipdolbinaaGreatDoor
