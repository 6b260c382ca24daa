/- The reader's words and bits. -/
import Derived.Test.YtmmhfipdolbinaaGreatDoorRz
namespace Go.Proofs.YtmmhfipdolbinaaGreatDoor
open Go.RowKit
set_option maxRecDepth 100000
attribute [local go_sem] not_any mf_any field_words

theorem Nl.set {w : World} {m : Nat} {a : Option Addr} {ws : List Nat} (h : Nl w m a ws) {B g o : Nat} {v : Value} (hB : ∀ p, a = some p → B ≤ p.block) (hg : g < B) : Nl (w.setCell ⟨g, o, none⟩ v) m a ws :=
  ⟨h.len, fun j x hj => by
    obtain ⟨b, o', rfl, hc⟩ := h.at' j x hj
    have := hB _ rfl
    refine ⟨b, o', rfl, ?_⟩
    rw [← hc]
    exact World.cell?_of_block (Below.heap_setCell _ _ _ _ (by simp at this ⊢; omega))⟩

theorem over_words (g k : Nat) (s f field : ByteArray) (c : Int) (fv : Value) (w : World) (h : w.heap[g]? = some (rdr s k c f)) (hc : c ≠ 0) :
    Calls Tryz.prog 50 #[.pointer (some ⟨g, 0, none⟩), .string field, fv] w fun e w' => e = .returned (.slice none 0 0) ∧ w' = w := by
  have k0 := hide1 (isOver_any g k s f c w h)
  rw [show (c != 0) = true by simpa using hc] at k0
  clear h
  go_enter Tryz.func50, Tryz.ntmps50
  go_wp2_with (go_at_call 66; refine k0.out.mono ?_; rintro e w' ⟨rfl, rfl⟩)
  go_ret
  exact ⟨rfl, rfl⟩

set_option maxHeartbeats 1000000 in
theorem read_words (g k sz : Nat) (s f field : ByteArray) (code : Int) (b1 b2 : Nat) (ws : List Nat) (w : World) (h : w.heap[g]? = some (rdr s k 0 f)) (hk : k ≤ s.size) (hs : s.size ≤ 281474976710656) (hsz : sz ≤ 281474976710656)
    (HT : Hid (∀ w' : World, Below w.heap.size w w' → Calls Tryz.prog 51 #[.string (s.extract k s.size), .pointer (some ⟨b1, 0, none⟩), .pointer (some ⟨b2, 0, none⟩)] w' (W1Post ws sz code w'))) :
    Calls Tryz.prog 50 #[.pointer (some ⟨g, 0, none⟩), .string field, .func (.func 51) #[] #[.pointer (some ⟨b1, 0, none⟩), .pointer (some ⟨b2, 0, none⟩)]] w
      (RdP g k sz s f field code w (fun e w' => ∃ a m c, e = .returned (.slice a m c) ∧ Nl w' m a ws) (.slice none 0 0)) := by
  have k0 := hide1 (isOver_any g k s f 0 w h)
  obtain ⟨c0, c1, c2, c3, c4, lt⟩ := rd_cells h
  have hcut := run_from s k hk
  have HR := hide1 h
  have HLT := hide1 lt
  have kT := hide1 (HT.out w.drew ((Below.refl _ _).drew))
  have HM : Hid (∀ e w1, W1Post ws sz code w.drew e w1 → ∃ a m c, e = .returned (.tuple #[.slice a m c, .int .i64 (sz : Int), .int .i64 code]) ∧ Shy (code = 0 → Nl w1 m a ws ∧ ∀ p, a = some p → w.drew.heap.size ≤ p.block) ∧ Below w.drew.heap.size w.drew w1) := fun _ _ h => h
  clear h c0 c3 c4 HT
  generalize s.extract k s.size = rest at *
  go_enter Tryz.func50, Tryz.ntmps50
  go_upto_region 4 with (go_at_call 66; refine k0.out.mono ?_; rintro e w1 ⟨rfl, hw1⟩; cases hw1)
  go_region_with (go_at_call 51; refine kT.out.mono ?_; intro e w1 hP1; obtain ⟨a, m, c, rfl, hnl, hb1⟩ := HM.out e w1 hP1; clear hP1)
  all_goals
    have hR1 : w1.heap[g]? = some (rdr s k 0 f) := (hb1.block g HLT.out).trans HR.out
    have HB1 : Hid (Below w.heap.size w w1) := (Below.refl _ _).drew.trans hb1
    have HR1 := hide1 hR1
    obtain ⟨c0, c1, c2, c3, c4, lt1⟩ := rd_cells hR1
    obtain ⟨f2, f3, f4⟩ := rd_free hR1
    by_cases hcode : code = 0
    · obtain ⟨hn1, hn2⟩ := hnl.out hcode
      have HN1 := hide1 hn1
      have HN2 : Hid (∀ p, a = some p → w.heap.size ≤ p.block) := hn2
      subst hcode
      clear hb1 hR1 k0 hn1 hn2 hnl HM kT
      go_wp2
      go_ret
      have ek : ((k : Int) + (sz : Int)) = (((k + sz : Nat)) : Int) := by omega
      refine ⟨fun _ => ⟨a, m, c, rfl, HN1.out.set HN2.out HLT.out⟩, fun h => absurd rfl h, ?_, (But.of_below HB1.out).trans (But.set g 2 _ _)⟩
      rw [rdN_ok, ek]
      exact rd_at HR1.out (k + sz)
    · have hc' : (code != 0) = true := by simpa using hcode
      have kF := hide1 (fail_any g k s f field code w1 hR1 hcode)
      clear hb1 hR1 k0 hnl HM kT
      go_wp2_with (go_at_call 27; refine kF.out.mono ?_; rintro e w2 ⟨rfl, rfl⟩)
      go_ret
      refine ⟨fun h => absurd h hcode, fun _ => rfl, ?_, ((But.of_below HB1.out).trans (But.set g 3 _ _)).trans (But.set g 4 _ _)⟩
      rw [rdN_no _ _ _ _ _ hcode]
      exact rd_fault HR1.out code field

/- what Words tells -/
def wdV (width most : Int) (R : List Nat) : List Nat := if wdC width most R = 0 then wdL width R else []
def WdP (g k : Nat) (s f field : ByteArray) (width most : Int) (w : World) (e : Ending) (w' : World) : Prop :=
  ∃ a m c, e = .returned (.slice a m c) ∧ Nl w' m a (wdV width most (restOf s k)) ∧ w'.heap[g]? = some (rdN s k (wdS width most (restOf s k)) f field (wdC width most (restOf s k))) ∧ But g w w'

theorem words1_all (width most : Int) (b1 b2 : Nat) (t : ByteArray) (w : World) (hb1 : w.cell? ⟨b1, 0, none⟩ = some (.int .i64 width)) (hb2 : w.cell? ⟨b2, 0, none⟩ = some (.int .i64 most)) (ht : t.size ≤ 281474976710656) :
    Calls Tryz.prog 51 #[.string t, .pointer (some ⟨b1, 0, none⟩), .pointer (some ⟨b2, 0, none⟩)] w (W1Post (wdL width (nums t)) (wdS width most (nums t)) (wdC width most (nums t)) w) := by
  by_cases h : width < 1 ∨ 64 < width
  · have hS : wdS width most (nums t) = 0 := if_pos h
    have hC : wdC width most (nums t) = 11 := if_pos h
    rw [hS, hC]
    exact words1_width width b1 b2 t _ w hb1 h
  · obtain ⟨wd, rfl⟩ : ∃ wd : Nat, width = wd := ⟨width.toNat, by omega⟩
    exact words1_any wd _ most b1 b2 t w (by omega) (by omega) rfl hb1 hb2 ht
theorem wdS_le {width most : Int} {R : List Nat} : wdS width most R ≤ 1000000 := by
  unfold wdS
  split
  · omega
  split
  · omega
  · rename_i h1 h2
    have hl := (lstH_length (Classical.not_not.1 h2)).2.2
    have hm := mostN_le most 65536
    have hb : bytesW width ≤ 8 := by unfold bytesW; omega
    have := Nat.mul_le_mul (show cntN R ≤ 65536 by omega) hb
    omega

theorem hb_block {B : Nat} {w w' : World} (h : Below B w w') {k : Nat} (hk : k < B) : w'.heap[k]? = w.heap[k]? := h.block k hk
theorem two_boxes {w w' : World} {o1 o2 : Obj} (h : Below ((w.alloc o1).alloc o2).heap.size ((w.alloc o1).alloc o2) w') : w'.heap[w.heap.size]? = some o1 ∧ w'.heap[w.heap.size + 1]? = some o2 :=
  ⟨(hb_block h (by simp; omega)).trans (heap_alloc2_old _ _ _), (hb_block h (by simp)).trans (heap_alloc2_new _ _ _)⟩

set_option maxHeartbeats 1000000 in
theorem rWords_any0 (g k : Nat) (s f field : ByteArray) (width most : Int) (w : World) (h : w.heap[g]? = some (rdr s k 0 f)) (hk : k ≤ s.size) (hs : s.size ≤ 281474976710656) :
    Calls Tryz.prog 18 #[.pointer (some ⟨g, 0, none⟩), .string field, .int .i64 width, .int .i64 most] w (WdP g k s f field width most w) := by
  have lt := lt_heap h
  have k1 := hide1 (read_words g k (wdS width most (restOf s k)) s f field (wdC width most (restOf s k)) w.heap.size (w.heap.size + 1) (wdL width (restOf s k)) ((w.alloc (.cells #[.int .i64 width] 3)).alloc (.cells #[.int .i64 most] 3)) ((Below.heap_alloc _ _ _ (by simp; omega)).trans ((Below.heap_alloc _ _ _ lt).trans h)) hk hs (Nat.le_trans wdS_le (by decide))
    (fun w' hb => (words1_all width most w.heap.size (w.heap.size + 1) (s.extract k s.size) w' (boxed (two_boxes hb).1) (boxed (two_boxes hb).2) (size_rest hs)).mono (by
      intro e w2 hp
      rw [restOf_nums] at hp
      exact hp)))
  have HE : Hid (∀ e w', RdP g k (wdS width most (restOf s k)) s f field (wdC width most (restOf s k)) ((w.alloc (.cells #[.int .i64 width] 3)).alloc (.cells #[.int .i64 most] 3)) (fun e w' => ∃ a m c, e = .returned (.slice a m c) ∧ Nl w' m a (wdL width (restOf s k))) (.slice none 0 0) e w' → ∃ a m c, e = .returned (.slice a m c) ∧ WdP g k s f field width most w (.returned (.slice a m c)) w') := fun e w' hp => by
    have hbt := (But.alloc g w (.cells #[.int .i64 width] 3)).trans ((But.alloc g _ (.cells #[.int .i64 most] 3)).trans hp.but)
    by_cases hc : wdC width most (restOf s k) = 0
    · obtain ⟨a, m, c, he, hn⟩ := hp.good hc
      exact ⟨a, m, c, he, a, m, c, rfl, by rw [wdV, if_pos hc]; exact hn, hp.row, hbt⟩
    · exact ⟨none, 0, 0, hp.bad hc, none, 0, 0, rfl, by rw [wdV, if_neg hc]; exact ⟨rfl, fun j x hj => by simp at hj⟩, hp.row, hbt⟩
  clear h
  generalize RdP g k (wdS width most (restOf s k)) s f field (wdC width most (restOf s k)) ((w.alloc (.cells #[.int .i64 width] 3)).alloc (.cells #[.int .i64 most] 3)) (fun e w' => ∃ a m c, e = .returned (.slice a m c) ∧ Nl w' m a (wdL width (restOf s k))) (.slice none 0 0) = PR at *
  generalize WdP g k s f field width most w = PP at *
  go_enter Tryz.func18, Tryz.ntmps18
  go_wp2_with fail
  refine k1.out.mono ?_
  intro e w1 hp
  obtain ⟨a, m, c, rfl, hpp⟩ := HE.out e w1 hp
  have HPP := hide1 hpp
  clear hp k1 hpp HE
  go_wp2
  try go_ret
  exact HPP.out
theorem rWords_over (g k : Nat) (s f field : ByteArray) (width most c : Int) (w : World) (h : w.heap[g]? = some (rdr s k c f)) (hc : c ≠ 0) :
    Calls Tryz.prog 18 #[.pointer (some ⟨g, 0, none⟩), .string field, .int .i64 width, .int .i64 most] w (OPost g k s f c w (.slice none 0 0)) := by
  have lt := lt_heap h
  have H0 := (Below.heap_alloc (w.alloc (.cells #[.int .i64 width] 3)) (.cells #[.int .i64 most] 3) _ (by simp; omega)).trans ((Below.heap_alloc w (.cells #[.int .i64 width] 3) _ lt).trans h)
  have k1 := fun fv => hide1 (over_words g k s f field c fv _ H0 hc)
  have H := hide1 H0
  clear h H0
  go_enter Tryz.func18, Tryz.ntmps18
  go_wp2_with (go_at_call 50; refine (k1 _).out.mono ?_; rintro e w1 ⟨rfl, rfl⟩)
  go_ret
  exact ⟨rfl, H.out, (But.alloc _ _ _).trans (But.alloc _ _ _)⟩
end Go.Proofs.YtmmhfipdolbinaaGreatDoor
