/- What is encoded is decoded as it was, and what is decoded encoded: pure. Two frames that are alike. The frames that an end makes. -/
import Derived.Test.YtcadlcpccemkbaaXf
import Derived.Laws.StructEq
import Derived.Test.YtcadlcpccemkbaaJp
namespace Go.Proofs.Ytcadlcpccemkbaa.X
open Go.RowKit
set_option maxRecDepth 100000

theorem mid_take {A B C L : List Nat} {n m : Nat} (h : L = A ++ (B ++ C)) (hA : A.length = n) (hB : B.length = m) : (L.drop n).take m = B := by
  subst hA; subst hB
  rw [h, List.drop_left', List.take_left']
  all_goals rfl
theorem mid_drop {A B L : List Nat} {n : Nat} (h : L = A ++ B) (hA : A.length = n) : L.drop n = B := by
  subst hA
  rw [h, List.drop_left']
  rfl
theorem enc_nums (k o p q a : Nat) (b : ByteArray) : nums (txt (encB k o p q a b)) = encB k o p q a b := nums_txt (encB_lt _ _ _ _ _ _)
theorem enc_size (k o p q a : Nat) (b : ByteArray) : (txt (encB k o p q a b)).size = 17 + b.size := by rw [txt_size (encB_lt _ _ _ _ _ _), encB_length]
theorem enc_hdK (k o p q a : Nat) (b : ByteArray) (h : k < 256) : hdK (txt (encB k o p q a b)) = k := by
  rw [hdK, enc_nums, mid_take (n := 0) (A := []) (B := fix k 1) (C := fix o 4 ++ (fix p 4 ++ (fix q 4 ++ (fix a 4 ++ nums b)))) (by simp [encB]) rfl (fix_length _ _), val_fix]
  exact Nat.mod_eq_of_lt h
theorem enc_hd1 (k o p q a : Nat) (b : ByteArray) (h : o < 4294967296) : hdN (txt (encB k o p q a b)) 1 = o := by
  rw [hdN, enc_nums, mid_take (A := fix k 1) (B := fix o 4) (C := fix p 4 ++ (fix q 4 ++ (fix a 4 ++ nums b))) (by simp [encB]) (fix_length _ _) (fix_length _ _), val_fix]
  exact Nat.mod_eq_of_lt h
theorem enc_hd5 (k o p q a : Nat) (b : ByteArray) (h : p < 4294967296) : hdN (txt (encB k o p q a b)) 5 = p := by
  rw [hdN, enc_nums, mid_take (A := fix k 1 ++ fix o 4) (B := fix p 4) (C := fix q 4 ++ (fix a 4 ++ nums b)) (by simp [encB]) (by simp [fix_length]) (fix_length _ _), val_fix]
  exact Nat.mod_eq_of_lt h
theorem enc_hd9 (k o p q a : Nat) (b : ByteArray) (h : q < 4294967296) : hdN (txt (encB k o p q a b)) 9 = q := by
  rw [hdN, enc_nums, mid_take (A := fix k 1 ++ (fix o 4 ++ fix p 4)) (B := fix q 4) (C := fix a 4 ++ nums b) (by simp [encB]) (by simp [fix_length]) (fix_length _ _), val_fix]
  exact Nat.mod_eq_of_lt h
theorem enc_hd13 (k o p q a : Nat) (b : ByteArray) (h : a < 4294967296) : hdN (txt (encB k o p q a b)) 13 = a := by
  rw [hdN, enc_nums, mid_take (A := fix k 1 ++ (fix o 4 ++ (fix p 4 ++ fix q 4))) (B := fix a 4) (C := nums b) (by simp [encB]) (by simp [fix_length]) (fix_length _ _), val_fix]
  exact Nat.mod_eq_of_lt h
theorem enc_body (k o p q a : Nat) (b : ByteArray) : (txt (encB k o p q a b)).extract 17 (txt (encB k o p q a b)).size = b := by
  apply nums_inj
  rw [nums_rest, enc_nums]
  exact mid_drop (A := fix k 1 ++ (fix o 4 ++ (fix p 4 ++ (fix q 4 ++ fix a 4)))) (by simp [encB]) (by simp [fix_length])
theorem enc_dec {k o p q a : Nat} {b : ByteArray} (hc : chk k o p q a b.size = 0) (ho : o < 4294967296) (hp : p < 4294967296) (hq : q < 4294967296) (ha : a < 4294967296) : decC (txt (encB k o p q a b)) = 0 := by
  have hk := (chk_size hc).2
  rw [decC, enc_hdK _ _ _ _ _ _ (by omega), enc_hd1 _ _ _ _ _ _ ho, enc_hd5 _ _ _ _ _ _ hp, enc_hd9 _ _ _ _ _ _ hq, enc_hd13 _ _ _ _ _ _ ha, enc_size, show 17 + b.size - 17 = b.size by omega, hc]
theorem dec_fix (s : ByteArray) (k n : Nat) (h : k + n ≤ s.size) : fix (val (((nums s).drop k).take n)) n = ((nums s).drop k).take n := by
  have hl : (((nums s).drop k).take n).length = n := by rw [List.length_take, List.length_drop, nums_length]; omega
  have := fix_val _ (((nums_all s).drop k).take n)
  rwa [hl] at this
theorem take_drop_on (l : List Nat) (k n : Nat) : (l.drop k).take n ++ l.drop (k + n) = l.drop k := by
  rw [← List.drop_drop]
  exact List.take_append_drop n (l.drop k)
theorem dec_enc (s : ByteArray) (h : 17 ≤ s.size) : txt (encB (hdK s) (hdN s 1) (hdN s 5) (hdN s 9) (hdN s 13) (s.extract 17 s.size)) = s := by
  have e : encB (hdK s) (hdN s 1) (hdN s 5) (hdN s 9) (hdN s 13) (s.extract 17 s.size) = nums s := by
    unfold encB hdK hdN
    rw [dec_fix s 0 1 (by omega), dec_fix s 1 4 (by omega), dec_fix s 5 4 (by omega), dec_fix s 9 4 (by omega), dec_fix s 13 4 (by omega), nums_rest]
    simp only [List.nil_append, List.append_assoc]
    rw [take_drop_on _ 13 4, take_drop_on _ 9 4, take_drop_on _ 5 4, take_drop_on _ 1 4]
    exact take_drop_on (nums s) 0 1
  rw [e, txt_nums]

end Go.Proofs.Ytcadlcpccemkbaa.X

namespace Go.Proofs.Ytcadlcpccemkbaa
open Go.RowKit
set_option maxRecDepth 100000
attribute [local go_sem] not_any

/- a frame's bytes -/
def tx (k o p q a : Nat) (b : ByteArray) : ByteArray := X.txt (X.encB k o p q a b)

theorem bare_any (k o p : Int) (w : World) : Calls Try.prog 37 #[.agg #[.int .u32 o, .int .u32 p], .int .i64 k] w fun e w' => e = .returned (X.fra k o p 0 0 ⟨#[]⟩) ∧ Below w.heap.size w w' := by
  go_enter Try.func37, Try.ntmps37
  go_upto_region 1 with (fail)
  generalize hX : World.alloc (World.alloc w _) _ = WX
  have HX : Hid (Below w.heap.size w WX) := by rw [← hX]; exact ((Below.refl _ _).alloc (Nat.le_refl _) _).alloc (by simp) _
  have h1 := hX ▸ heap_alloc2_old w _ _
  have H2 := hide1 (hX ▸ heap_alloc2_new w _ _)
  have HB2 : Hid (w.heap.size ≤ w.heap.size + 1) := Nat.le_succ _
  obtain ⟨b1, hb1⟩ : ∃ b, w.heap.size = b := ⟨_, rfl⟩
  obtain ⟨b2, hb2⟩ : ∃ b, w.heap.size + 1 = b := ⟨_, rfl⟩
  rw [hb2] at H2 HB2 ⊢
  rw [hb1] at h1 ⊢
  clear hX hb1 hb2
  obtain ⟨c0, c1, f0, f1, l0⟩ := box2 h1
  obtain ⟨d0, d1, d2, d3, d4, d5, l1⟩ := X.box6 H2.out
  clear h1
  go_wp2_with (refine wpList_store_row rfl 73 (.tmp 4) (.tmp 10) rfl b2 #[.int .i64 k, .int .u32 o, .int .u32 p, .int .u32 0, .int .u32 0, .string ⟨#[]⟩] rfl rfl 73 _ H2.out rfl (by kernel_rfl) (by kernel_rfl) ?_)
  exact X.ret_fr Try.results37 b2 _ _ _ _ _ _ rfl (setRow_heap WX b2 _ _ _ _ H2.out) rfl ⟨rfl, below_setRow HX.out HB2.out _⟩

theorem written_any (k o p q a : Nat) (b : ByteArray) (w : World) (hc : X.chk k o p q a b.size = 0) (ho : o < 4294967296) (hp : p < 4294967296) (hq : q < 4294967296) (ha : a < 4294967296) :
    Calls Try.prog 35 #[X.fra k o p q a b] w fun e w' => e = .returned (.string (tx k o p q a b)) ∧ Below w.heap.size w w' := by
  have kE := fun w => hide1 (X.encode_ok k o p q a b w hc ho hp hq ha)
  change ∀ w, Hid (Calls Try.prog 51 #[X.fra k o p q a b] w fun e w' => e = .returned (.tuple #[.string (tx k o p q a b), .nilIface]) ∧ Below w.heap.size w w') at kE
  generalize tx k o p q a b = T at *
  unfold X.fra at *
  clear hc ho hp hq ha
  go_enter Try.func35, Try.ntmps35
  go_upto_region 1 with (fail)
  generalize hX : World.alloc w _ = WX
  have HX : Hid (Below w.heap.size w WX) := by rw [← hX]; exact below1 _
  have h0 := hX ▸ heap_alloc_new w _
  obtain ⟨c0, c1, c2, c3, c4, c5, l0⟩ := X.box6 h0
  clear hX h0
  go_wp2_with (go_at_call 51; refine (kE _).out.mono ?_; rintro e w1 ⟨rfl, hb⟩)
  go_ret
  exact ⟨rfl, HX.out.trans (hb.mono HX.out.size)⟩

/- a plain frame, the frame of a body, frames of bodies -/
def Ls.pln (x : Ls) : ByteArray := if x.sure then tx 3 x.own x.peer 0 (x.a + 1) ⟨#[]⟩ else tx 1 x.own x.peer 0 0 ⟨#[]⟩
def Ls.frm (x : Ls) (p : Nat × ByteArray) : ByteArray := tx 2 x.own x.peer p.1 (x.a + 1) p.2
def Ls.tell (x : Ls) (l : List (Nat × ByteArray)) : List ByteArray := if l = [] then [x.pln] else l.map x.frm
/- a plain frame as a value -/
def Ls.plv (x : Ls) : Value := if x.sure then X.fra 3 x.own x.peer 0 ((x.a + 1 : Nat) : Int) ⟨#[]⟩ else X.fra 1 x.own x.peer 0 0 ⟨#[]⟩

set_option maxHeartbeats 1000000 in
theorem lplain_any {N B s n : Nat} {v m u : Value} {x : Ls} {w : World} (h : Lkm B s v m u n x w) (hx : x.Ok N) (hN : N + 1000 < 4294967296) :
    Calls Try.prog 36 #[.pointer (some ⟨s, 0, none⟩)] w fun e w' => e = .returned x.plv ∧ Below w.heap.size w w' := by
  have kB := fun (k : Int) w => hide1 (bare_any k (x.own : Int) (x.peer : Int) w)
  have kA := fun w' (hb : Below w.heap.size w w') => hide1 (awaited_any (h.below hb (Nat.le_refl _)).inm (by have := hx.aN; omega))
  unfold X.fra at *
  have H := hide1 h
  clear hx hN
  cases hs : x.sure with
  | false =>
    unfold Ls.plv
    rw [hs]
    unfold X.fra
    go_enter Try.func36, Try.ntmps36
    go_upto_region 1 with (fail)
    generalize hX : World.alloc w _ = WX
    have HX : Hid (Below w.heap.size w WX) := by rw [← hX]; exact below1 _
    have H2 := hide1 (hX ▸ heap_alloc_new w _)
    obtain ⟨b2, hb2⟩ : ∃ b, w.heap.size = b := ⟨_, rfl⟩
    have HB2 := hide1 (Nat.le_of_eq hb2)
    have LK := hide1 (H.out.below HX.out (Nat.le_refl _))
    obtain ⟨c0, c1, c2, _, _⟩ := boxS LK.out.row
    rw [hs] at c2
    rw [hb2] at H2 ⊢
    clear hX hb2 hs h
    go_wp2_with fail
    refine (kB 1 _).out.mono ?_
    rintro e w1 ⟨rfl, hb1⟩
    have R2 := hide1 ((hb1.block b2 (lt_heap H2.out)).trans H2.out)
    have HX1 := hide1 (HX.out.trans (hb1.mono HX.out.size))
    clear c0 c1 c2 hb1
    obtain ⟨d0, d1, d2, d3, d4, d5, l1⟩ := X.box6 R2.out
    go_wp2_with (refine wpList_store_row rfl 73 (.tmp 2) (.tmp 13) rfl b2 #[.int .i64 1, .int .u32 (x.own : Int), .int .u32 (x.peer : Int), .int .u32 0, .int .u32 0, .string ⟨#[]⟩] rfl rfl 73 _ R2.out rfl (by kernel_rfl) (by kernel_rfl) ?_)
    exact X.ret_fr Try.results36 b2 _ _ _ _ _ _ rfl (setRow_heap w1 b2 _ _ _ _ R2.out) rfl ⟨rfl, below_setRow HX1.out HB2.out _⟩
  | true =>
    unfold Ls.plv
    rw [hs]
    obtain ⟨a1, ha1⟩ : ∃ a1, x.a + 1 = a1 := ⟨_, rfl⟩
    rw [ha1]
    have HA1 := hide1 ha1
    clear ha1
    unfold X.fra
    go_enter Try.func36, Try.ntmps36
    go_upto_region 1 with (fail)
    generalize hX : World.alloc w _ = WX
    have HX : Hid (Below w.heap.size w WX) := by rw [← hX]; exact below1 _
    have H2 := hide1 (hX ▸ heap_alloc_new w _)
    obtain ⟨b2, hb2⟩ : ∃ b, w.heap.size = b := ⟨_, rfl⟩
    have HB2 := hide1 (Nat.le_of_eq hb2)
    have LK := hide1 (H.out.below HX.out (Nat.le_refl _))
    obtain ⟨c0, c1, c2, _, _⟩ := boxS LK.out.row
    rw [hs] at c2
    rw [hb2] at H2 ⊢
    clear hX hb2 hs h
    go_wp2_with fail
    refine (kB 3 _).out.mono ?_
    rintro e w1 ⟨rfl, hb1⟩
    have R2 := hide1 ((hb1.block b2 (lt_heap H2.out)).trans H2.out)
    have HX1 := hide1 (HX.out.trans (hb1.mono HX.out.size))
    clear c0 c1 c2 hb1 H2 HX LK
    go_upto_region 4 with (fail)
    generalize hY : World.alloc w1 _ = Y
    have HX2 : Hid (Below w.heap.size w Y) := by rw [← hY]; exact HX1.out.alloc HX1.out.size _
    have R4 : Hid (Y.heap[b2]? = some (.cells #[.int .i64 0, .int .u32 0, .int .u32 0, .int .u32 0, .int .u32 0, .string ⟨#[]⟩] 73 (0, 0))) := by rw [← hY]; exact (Below.heap_alloc _ _ _ (lt_heap R2.out)).trans R2.out
    have R3 := hide1 (hY ▸ heap_alloc_new w1 _)
    obtain ⟨b3, hb3⟩ : ∃ b, w1.heap.size = b := ⟨_, rfl⟩
    have HB3 : Hid (w.heap.size ≤ b3 ∧ b2 ≠ b3) := by
      have h1 := HX1.out.size
      have h2 := lt_heap R2.out
      exact ⟨by omega, by omega⟩
    rw [hb3] at R3 ⊢
    have kA1 := hide1 (kA Y HX2.out).out
    change Hid (Calls Try.prog 38 #[.pointer (some ⟨s, 6, none⟩)] Y fun e w' => e = .returned (.int .u32 ((x.a + 1 : Nat) : Int)) ∧ w' = Y) at kA1
    rw [HA1.out] at kA1
    obtain ⟨d0, d1, d2, d3, d4, d5, l1⟩ := X.box6 R3.out
    have q4 := frozen_of_row Y b3 4 _ _ R3.out
    clear hY hb3 kA kB R2
    go_wp2_with fail
    refine kA1.out.mono ?_
    rintro e w2 ⟨rfl, hw2⟩
    obtain rfl := hw2.symm
    go_upto_region 5 with (fail)
    have R5 : Hid ((Y.setCell ⟨b3, 4, none⟩ (.int .u32 (a1 : Int))).heap[b3]? = some (.cells #[.int .i64 3, .int .u32 (x.own : Int), .int .u32 (x.peer : Int), .int .u32 0, .int .u32 (a1 : Int), .string ⟨#[]⟩] 73 (0, 0))) := by
      unfold Hid
      rw [heap_setCell_same _ b3 4 _ _ _ R3.out]
      rfl
    have R6 : Hid ((Y.setCell ⟨b3, 4, none⟩ (.int .u32 (a1 : Int))).heap[b2]? = some (.cells #[.int .i64 0, .int .u32 0, .int .u32 0, .int .u32 0, .int .u32 0, .string ⟨#[]⟩] 73 (0, 0))) := (heap_setCell_other _ _ _ _ HB3.out.2).trans R4.out
    have HX3 : Hid (Below w.heap.size w (Y.setCell ⟨b3, 4, none⟩ (.int .u32 (a1 : Int)))) := HX2.out.setCell (p := ⟨b3, 4, none⟩) HB3.out.1 _
    generalize Y.setCell ⟨b3, 4, none⟩ (.int .u32 (a1 : Int)) = Z at R5 R6 HX3 ⊢
    clear d0 d1 d2 d3 d4 d5 q4 R3 R4 kA1
    obtain ⟨d0, d1, d2, d3, d4, d5, _⟩ := X.box6 R5.out
    go_wp2_with (refine wpList_store_row rfl 73 (.tmp 2) (.tmp 24) rfl b2 #[.int .i64 3, .int .u32 (x.own : Int), .int .u32 (x.peer : Int), .int .u32 0, .int .u32 (a1 : Int), .string ⟨#[]⟩] rfl rfl 73 _ R6.out rfl (by kernel_rfl) (by kernel_rfl) ?_)
    exact X.ret_fr Try.results36 b2 _ _ _ _ _ _ rfl (setRow_heap Z b2 _ _ _ _ R6.out) rfl ⟨rfl, below_setRow HX3.out HB2.out _⟩

end Go.Proofs.Ytcadlcpccemkbaa
