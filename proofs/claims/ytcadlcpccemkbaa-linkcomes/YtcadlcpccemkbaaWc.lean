/- A writer: pieces one behind the other. -/
import Derived.Test.YtcadlcpccemkbaaMRSWb
namespace Go.Proofs.Ytcadlcpccemkbaa.X
open Go.RowKit
set_option maxRecDepth 100000
attribute [local go_sem] not_any mf_any

def cat : List ByteArray → List Nat
  | [] => []
  | p :: ps => cat ps ++ nums p
theorem cat_lt : ∀ ps, Lt 256 (cat ps)
  | [] => fun x hx => by cases hx
  | p :: ps => (cat_lt ps).append (nums_all p)

/- pieces in memory, the last one first -/
def Pcs (w : World) (B : Nat) : List ByteArray → Option Addr → Prop
  | [], a => a = none
  | p :: ps, a => ∃ g b, a = some ⟨g, 0, none⟩ ∧ B ≤ g ∧ w.heap[g]? = some (.cells #[.pointer b, .string p, .int .i64 (((cat (p :: ps)).length : Nat) : Int)] 122 (0, 0)) ∧ (p.size ≠ 0 ∧ ∀ q, b = some q → q.block < g) ∧ Pcs w B ps b
theorem Pcs.keep {w w' : World} {B : Nat} (h : ∀ g, B ≤ g → g < w.heap.size → w'.heap[g]? = w.heap[g]?) : ∀ {ps a}, Pcs w B ps a → Pcs w' B ps a
  | [], _, hp => hp
  | _ :: _, _, ⟨g, b, h1, h2, h3, h5, h4⟩ => ⟨g, b, h1, h2, (h g h2 (lt_heap h3)).trans h3, h5, Pcs.keep h h4⟩
theorem Pcs.last {w : World} {B : Nat} : ∀ {ps a}, Pcs w B ps a → ∀ q, a = some q → q.block < w.heap.size
  | [], _, hp, q, hq => by rw [hp] at hq; cases hq
  | _ :: _, _, ⟨g, b, h1, h2, h3, _, _⟩, q, hq => by rw [h1] at hq; cases hq; exact lt_heap h3

def wrt (a : Option Addr) : Obj := .cells #[.pointer a] 112 (0, 0)
/- a writer that has written these bytes -/
def Wr (w : World) (g : Nat) (L : List Nat) : Prop := ∃ a ps, cat ps = L ∧ w.heap[g]? = some (wrt a) ∧ Pcs w (g + 1) ps a
theorem Wr.below {w w' : World} {g : Nat} {L : List Nat} (h : Wr w g L) (hb : Below w.heap.size w w') : Wr w' g L := by
  obtain ⟨a, ps, h1, h2, h3⟩ := h
  exact ⟨a, ps, h1, (hb.block g (lt_heap h2)).trans h2, h3.keep (fun k _ hk => hb.block k hk)⟩
theorem Wr.lt {w : World} {g : Nat} {L : List Nat} (h : Wr w g L) : Lt 256 L := by
  obtain ⟨a, ps, h1, h2, h3⟩ := h
  rw [← h1]
  exact cat_lt ps
theorem Wr.size {w : World} {g : Nat} {L : List Nat} (h : Wr w g L) : g < w.heap.size := by
  obtain ⟨a, ps, h1, h2, h3⟩ := h
  exact lt_heap h2
theorem Wr.new (w : World) : Wr (w.alloc (wrt none)) w.heap.size [] := ⟨none, [], rfl, heap_alloc_new _ _, rfl⟩

theorem conv_own {base n : Nat} {v : Value} {w : World} {l : List Nat} (hn : l.length = n) (h : w.ownsRow base 5 1 v n (u8s l)) :
    (convert 99 9 v).run Try.prog w = .ok (.string (txt l)) w := by
  obtain ⟨h1, ⟨rfl, hn0⟩ | ⟨g, cap, cur, rfl, _⟩⟩ := id h
  · have e : l = [] := List.length_eq_zero_iff.1 (by omega)
    rw [e]
    exact run_convert_bytes_nil (P := Try.prog) w 99 5 Try.underlying99 Try.underlying5 0 0 9 Try.underlying9
  · refine text_of hn (fun j x hj => ?_)
    have := h.cells (g := g) rfl j (.int .u8 (x : Int)) (by simp [u8s, hj])
    rwa [Addr.add_lit, Nat.zero_add] at this

theorem add_nothing (g : Nat) (w : World) : Calls Try.prog 66 #[.pointer (some ⟨g, 0, none⟩), .string ⟨#[]⟩] w fun e w' => e = .returned (.tuple #[]) ∧ w' = w := by
  go_enter Try.func66, Try.ntmps66
  go_wp2
  refine bodyPost_ret (results_none rfl _ _ _) rfl ?_
  exact ⟨rfl, rfl⟩

theorem ne_empty {t : ByteArray} (h : t.size ≠ 0) : t.toList.isEmpty = false := by
  rw [Lib.toList_data, List.isEmpty_eq_false_iff]
  intro e
  exact h (by rw [Lib.size_eq, e]; rfl)

set_option maxHeartbeats 1000000 in
theorem add_some (g : Nat) (w : World) (L : List Nat) (t : ByteArray) (h : Wr w g L) (ht : t.size ≠ 0) (hL : L.length + t.size ≤ 1099511627776) :
    Calls Try.prog 66 #[.pointer (some ⟨g, 0, none⟩), .string t] w fun e w' => e = .returned (.tuple #[]) ∧ Wr w' g (L ++ nums t) ∧ But g w w' := by
  obtain ⟨a, ps, rfl, hg, hp⟩ := h
  have ht' := ne_empty ht
  have c0 : w.cell? ⟨g, 0, none⟩ = some (.pointer a) := by rw [cell_of_row w g 0 _ _ _ hg]; rfl
  have f0 := frozen_of_row w g 0 _ _ hg
  have lt := lt_heap hg
  have HG := hide1 hg
  have HP := hide1 hp
  have hend : ∀ (E : Int) (o : Obj), o = .cells #[.pointer a, .string t, .int .i64 E] 122 (0, 0) → E = (((cat (t :: ps)).length : Nat) : Int) → Wr ((w.setCell ⟨g, 0, none⟩ (.pointer (some ⟨w.heap.size, 0, none⟩))).alloc o) g (cat ps ++ nums t) ∧ But g w ((w.setCell ⟨g, 0, none⟩ (.pointer (some ⟨w.heap.size, 0, none⟩))).alloc o) := by
    rintro E o rfl rfl
    have hz : (w.setCell ⟨g, 0, none⟩ (.pointer (some ⟨w.heap.size, 0, none⟩))).heap.size = w.heap.size := by simp
    refine ⟨⟨_, t :: ps, rfl, ?_, w.heap.size, a, rfl, by omega, ?_, ⟨ht, hp.last⟩, ?_⟩, ?_⟩
    · refine (Below.heap_alloc _ _ _ (by rw [hz]; exact lt)).trans ?_
      rw [heap_setCell_same _ g 0 _ _ _ hg]; rfl
    · have h9 := heap_alloc_new (w.setCell ⟨g, 0, none⟩ (.pointer (some ⟨w.heap.size, 0, none⟩))) (.cells #[.pointer a, .string t, .int .i64 (((cat (t :: ps)).length : Nat) : Int)] 122 (0, 0))
      rw [hz] at h9
      exact h9
    · exact hp.keep (fun k hk1 hk2 => (Below.heap_alloc _ _ _ (by rw [hz]; exact hk2)).trans (Below.heap_setCell _ _ _ _ (by simp; omega)))
    · exact (But.set g 0 w _).trans (But.of_below ((Below.refl _ _).alloc (Nat.le_refl _) _))
  have HE := hide1 hend
  clear hend hg hp
  match ps with
  | [] =>
    obtain rfl := HP.out
    go_enter Try.func66, Try.ntmps66
    go_wp2
    go_end0
    exact ⟨rfl, HE.out _ _ rfl (by simp [cat, nums_length])⟩
  | p :: ps =>
    obtain ⟨gp, b, rfl, hgp, hpc, _, hrest⟩ := HP.out
    have cp : w.cell? ⟨gp, 2, none⟩ = some (.int .i64 (((cat (p :: ps)).length : Nat) : Int)) := by rw [cell_of_row w gp 2 _ _ _ hpc]; rfl
    obtain ⟨z, hz⟩ : ∃ z, z = (cat (p :: ps)).length := ⟨_, rfl⟩
    rw [← hz] at cp hL
    have HZ : Shy (z = (cat (p :: ps)).length) := ⟨hz⟩
    clear hz hpc hrest HP
    go_enter Try.func66, Try.ntmps66
    go_wp2
    go_end0
    refine ⟨rfl, HE.out _ _ rfl ?_⟩
    rw [cat, List.length_append, ← HZ.out, nums_length, Int.natCast_add, Int.add_comm]

theorem add_any (g : Nat) (w : World) (L : List Nat) (t : ByteArray) (h : Wr w g L) (hL : L.length + t.size ≤ 1099511627776) :
    Calls Try.prog 66 #[.pointer (some ⟨g, 0, none⟩), .string t] w fun e w' => e = .returned (.tuple #[]) ∧ Wr w' g (L ++ nums t) ∧ But g w w' := by
  by_cases ht : t.size = 0
  · have hs : t = ⟨#[]⟩ := by
      apply ByteArray.ext
      exact Array.eq_empty_of_size_eq_zero ht
    subst hs
    refine (add_nothing g w).mono ?_
    rintro e w' ⟨rfl, rfl⟩
    exact ⟨rfl, by rw [nums_empty, List.append_nil]; exact h, But.refl _ _⟩
  · exact add_some g w L t h ht hL

theorem But.wr {w w' : World} {g : Nat} (h : But g w w') {w0 : World} {B : Nat} (hb : Below B w0 w) (hB : B ≤ g) (hs : B ≤ w.heap.size) : Below B w0 w' := h.below hb hB hs

set_option maxHeartbeats 1000000 in
theorem number_any (g : Nat) (w : World) (L : List Nat) (x n : Nat) (h : Wr w g L) (hL : L.length ≤ 1000000000) (hn : n ≤ 8) :
    Calls Try.prog 65 #[.pointer (some ⟨g, 0, none⟩), .int .u64 (x : Int), .int .i64 (n : Int)] w fun e w' => e = .returned (.tuple #[]) ∧ Wr w' g (L ++ fix x n) ∧ But g w w' := by
  have k1 := hide1 (appendNumber_any w.heap.size w (.slice none 0 0) 0 x n [] (World.ownsRow_nil _ _ _ _) rfl (Nat.le_refl _) hn (by omega))
  have HW := hide1 h
  clear h
  go_enter Try.func65, Try.ntmps65
  go_wp2_with fail
  refine k1.out.mono ?_
  rintro e w1 ⟨v', rfl, hrow, hb⟩
  rw [Nat.zero_add, List.nil_append] at hrow
  have hcv := conv_own (fix_length n x) hrow
  have hsz : (txt (fix x n)).size = n := by rw [txt_size (fix_lt n x), fix_length]
  have k2 := hide1 (add_any g w1 L (txt (fix x n)) (HW.out.below hb) (by omega))
  rw [nums_txt (fix_lt n x)] at k2
  obtain ⟨la, lc, rfl⟩ := row_form hrow
  have HB := hide1 hb
  clear hrow k1 hb hsz
  go_wp2_with (go_at_call 66; refine k2.out.mono ?_; rintro e w2 ⟨rfl, hw2, hbut⟩)
  go_end0
  exact ⟨rfl, hw2, (But.of_below HB.out).trans hbut⟩

end Go.Proofs.Ytcadlcpccemkbaa.X
