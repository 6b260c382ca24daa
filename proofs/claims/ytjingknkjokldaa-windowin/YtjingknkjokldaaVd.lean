/- WindowIn: both Ins alike, body by body. -/
import Derived.Test.YtjingknkjokldaaVc
namespace Go.Proofs.Ytjingknkjokldaa
open Go.RowKit
set_option maxRecDepth 100000
attribute [local go_sem] not_any

/- what the document's Take leaves, its box among it -/
structure Md (U W : World) (u u' v : Value) (A : Nat) (l L : List (Nat × ByteArray)) (O : List ByteArray) (g : Nat) : Prop where
  row : W.heap[g]? = some (.cells #[.int .i64 (A : Int), u'] 53 (0, 0))
  rd : Rnl W u' L
  ls : Lst U.heap.size W v O
  bel : Below U.heap.size U W
  own : L ≠ [] → ∀ g, u'.ownBlock = some g → (u.ownBlock = some g ∧ g < U.heap.size ∧ l ≠ []) ∨ U.heap.size ≤ g
theorem md_call {U W : World} {u u' v : Value} {l L : List (Nat × ByteArray)} {O : List ByteArray} (A : Nat) (h1 : Rnl W u' L) (h2 : Lst U.heap.size W v O) (h3 : Below U.heap.size U W) (h4 : L ≠ [] → ∀ g, u'.ownBlock = some g → (u.ownBlock = some g ∧ g < U.heap.size ∧ l ≠ []) ∨ U.heap.size ≤ g) (x y : Value) :
    Md U (((W.alloc (.cells #[x, y] 53)).setCell ⟨W.heap.size, 0, none⟩ (.int .i64 (A : Int))).setCell ⟨W.heap.size, 1, none⟩ u') u u' v A l L O W.heap.size := by
  have hb : Below W.heap.size W (((W.alloc (.cells #[x, y] 53)).setCell ⟨W.heap.size, 0, none⟩ (.int .i64 (A : Int))).setCell ⟨W.heap.size, 1, none⟩ u') := below_set2 (below1 _) (Nat.le_refl _)
  exact ⟨set_box2 (heap_alloc_new _ _), h1.below hb (Nat.le_refl _), h2.below hb (Nat.le_refl _), h3.trans (hb.mono h3.size), h4⟩
theorem md_box {U W : World} {u u' v : Value} {l L : List (Nat × ByteArray)} {O : List ByteArray} {x y : Value} (A : Nat) (h1 : Rnl W u' L) (h2 : Lst (U.alloc (.cells #[x, y] 53)).heap.size W v O) (h3 : Below (U.alloc (.cells #[x, y] 53)).heap.size (U.alloc (.cells #[x, y] 53)) W)
    (h0 : Rnl U u l) (h4 : L ≠ [] → ∀ g, u'.ownBlock = some g → (u.ownBlock = some g ∧ g < (U.alloc (.cells #[x, y] 53)).heap.size ∧ l ≠ []) ∨ (U.alloc (.cells #[x, y] 53)).heap.size ≤ g) :
    Md U ((W.setCell ⟨U.heap.size, 0, none⟩ (.int .i64 (A : Int))).setCell ⟨U.heap.size, 1, none⟩ u') u u' v A l L O U.heap.size := by
  have hs : (U.alloc (.cells #[x, y] 53)).heap.size = U.heap.size + 1 := by simp
  have r0 : W.heap[U.heap.size]? = some (.cells #[x, y] 53 (0, 0)) := (h3.block _ (by omega)).trans (heap_alloc_new _ _)
  have b0 : Below U.heap.size U W := (below1 _).trans (h3.mono (by omega))
  have hk : Kp (fun k => k = U.heap.size) W ((W.setCell ⟨U.heap.size, 0, none⟩ (.int .i64 (A : Int))).setCell ⟨U.heap.size, 1, none⟩ u') := (Kp.setCell (F := fun k => k = U.heap.size) W U.heap.size 0 _ rfl).trans (Kp.setCell (F := fun k => k = U.heap.size) _ U.heap.size 1 _ rfl)
  have h5 : L ≠ [] → ∀ g, u'.ownBlock = some g → (u.ownBlock = some g ∧ g < U.heap.size ∧ l ≠ []) ∨ U.heap.size + 1 ≤ g := fun hl g hg => by
    rcases h4 hl g hg with ⟨e, _, e3⟩ | e
    · exact .inl ⟨e, h0.lt e3 e, e3⟩
    · exact .inr (by omega)
  refine ⟨set_box2 r0, h1.kp2 hk fun hl k hk e => ?_, (h2.kp hk fun k hk e => ?_).mono (by omega), below_set2 b0 (Nat.le_refl _), fun hl g hg => ?_⟩
  · rcases h5 hl k hk with h6 | h6 <;> omega
  · have := (h2.lt hk).1
    omega
  · rcases h5 hl g hg with h6 | h6
    · exact .inl h6
    · exact .inr (by omega)

set_option maxHeartbeats 8000000 in
theorem in_all (w : World) (m cap : Nat) (aa : Option Addr) (hA : Ac w m aa) :
    Calls Try.prog 4 #[.slice aa m cap] w fun e w' => e = .returned (.bool true) ∧ Below w.heap.size w w' := by
  have HA := hide1 hA
  clear hA
  go_enter Try.func4, Try.ntmps4
  go_wp2_with fail
  have hw1 : (w.alloc (.cells #[.int .u32 0, .map none] 51)).heap.size = w.heap.size + 1 := by simp
  have ST : Hid (Bi w.heap.size w.heap.size (w.heap.size + 1) (.map none) (.slice none 0 0) 0 0 [] ((w.alloc (.cells #[.int .u32 0, .map none] 51)).alloc (.cells #[.int .i64 1, .slice none 0 0] 53))) :=
    ⟨(Inm.zero w).below (below1 _) (Nat.le_refl _), by rw [← hw1]; exact heap_alloc_new _ _, Rnl.nil _, Nat.le_refl _, by omega, fun g h => (by cases h), by omega, fun h => (by cases h), fun h => absurd rfl h⟩
  have SB : Hid (Below w.heap.size w ((w.alloc (.cells #[.int .u32 0, .map none] 51)).alloc (.cells #[.int .i64 1, .slice none 0 0] 53))) := (below1 _).alloc (by simp) _
  clear hw1
  generalize World.alloc _ _ = X at ST SB ⊢
  obtain ⟨B, hB0⟩ : ∃ B, w.heap.size = B := ⟨_, rfl⟩
  obtain ⟨r, hr0⟩ : ∃ r, w.heap.size + 1 = r := ⟨_, rfl⟩
  rw [hr0, hB0] at ST
  rw [hB0] at SB
  have HB0 := hide1 hB0
  rw [hr0, hB0]
  clear hB0 hr0
  go_loopw [5] (fun v wr => ∃ (j : Nat) (mm u : Value) (a : Nat) (l : List (Nat × ByteArray)), j ≤ m ∧ j ≤ 60 ∧ v = .int .i64 (j : Int) ∧ a ≤ 16 * j ∧ Bi B B r mm u a j l wr ∧ Hd a l ∧ Sz l ∧ Below B w wr) (fun v _ => 60 - (intOf v).toNat)
  case atStart => exact ⟨0, _, _, 0, [], Nat.zero_le _, Nat.zero_le _, rfl, by omega, ST.out, Hd.none 0, fun p hp => (by simp at hp), SB.out⟩
  case round =>
    obtain ⟨j, mm, u, a, l, hjm, hj60, rfl, haj, hBi, hHd, hSz, hB⟩ := hrel
    have BI := hide1 hBi
    have HD := hide1 hHd
    have SZ := hide1 hSz
    have B0 := hide1 hB
    have AJ := hide1 haj
    have BS : Hid (B ≤ wr.heap.size) := by have := HB0.out; have := hB.size; unfold Hid; omega
    by_cases hend : j < m ∧ j < 60
    · obtain ⟨hjm', hj60'⟩ := hend
      have hj60i : (j : Int) < 60 := by omega
      have hjmi : (j : Int) < (m : Int) := by omega
      obtain ⟨g, o, kd, q, b, rfl, hq, hbs, h3⟩ := HA.out j hjm'
      obtain ⟨p0, hp0⟩ : ∃ p, o + j * 3 = p := ⟨_, rfl⟩
      rw [hp0] at h3
      have HC : Hid (∀ W, Below B w W → W.cell? ⟨g, p0 + 1, none⟩ = some (.int .u32 (q : Int)) ∧ W.cell? ⟨g, p0 + 2, none⟩ = some (.string b)) := fun W hW => by
        have := h3.same (hW.block g (by have := block_lt_of_cell h3.c0; have := HB0.out; simp only at *; omega))
        exact ⟨this.c1, this.c2⟩
      obtain ⟨c1, c2⟩ := HC.out wr hB
      have kT := hide1 (take_any (w := wr.drew) (hBi.below (Below.refl _ _).drew).inm hHd (by omega) q hq b hbs (by omega))
      obtain ⟨A1, hA1⟩ : ∃ n, a + 1 = n := ⟨_, rfl⟩
      obtain ⟨A2, hA2⟩ : ∃ n, tkA a l q b + 1 = n := ⟨_, rfl⟩
      obtain ⟨cc, hcc⟩ : ∃ n, chkC a (lk l) q = n := ⟨_, rfl⟩
      obtain ⟨a2, ha2⟩ : ∃ n, tkA a l q b = n := ⟨_, rfl⟩
      obtain ⟨L2, hL2⟩ : ∃ n, tkR a l q b = n := ⟨_, rfl⟩
      obtain ⟨O2, hO2⟩ : ∃ n, tkO a l q b = n := ⟨_, rfl⟩
      obtain ⟨n2, hn2⟩ : ∃ n, L2.length = n := ⟨_, rfl⟩
      have HN2 := hide1 hn2
      clear hn2
      have kR : Hid (∀ W, Rnl W u l → Calls Try.prog 21 #[.agg #[.int .i64 ((a + 1 : Nat) : Int), u], .int .i64 (q : Int), .string b] W fun e w' => ∃ u' v, e = .returned (.tuple #[.agg #[.int .i64 ((tkA a l q b + 1 : Nat) : Int), u'], v, .int .i64 (chkC a (lk l) q)]) ∧ Rnl w' u' (tkR a l q b) ∧ Lst W.heap.size w' v (tkO a l q b) ∧ Below W.heap.size W w' ∧ (tkR a l q b ≠ [] → ∀ g, u'.ownBlock = some g → (u.ownBlock = some g ∧ g < W.heap.size ∧ l ≠ []) ∨ W.heap.size ≤ g)) := fun W hW => rtake_any hW hHd (by omega) hq
      have RLT : Hid (r < wr.heap.size) := lt_heap hBi.row
      have HD2 := hide1 (hHd.take (q := q) (b := b))
      have SZ2 := hide1 (sz_take (a := a) (q := q) hSz hbs)
      have AJ2 : Hid (tkA a l q b ≤ 16 * (j + 1)) := by have := tkO_len (q := q) (b := b) hHd; unfold Hid tkA; omega
      have OL := hide1 (tkO_len (q := q) (b := b) hHd)
      have HQ := hide1 hq
      rw [hA1, hA2, hcc, hL2, hO2] at kR
      rw [hcc, hO2, ha2, hL2] at kT
      rw [ha2, hL2] at HD2
      rw [hL2] at SZ2
      rw [ha2] at AJ2
      rw [hO2] at OL
      have SA : Hid (a + 1 = A1 ∧ a2 + 1 = A2) := ⟨hA1, by rw [← ha2]; exact hA2⟩
      clear hA1 hA2 hcc ha2 hL2 hO2
      clear hBi hHd hSz hB haj hq hbs
      go_upto_region 6 with (fail)
      refine region_f (F := [10]) (S := fun W => W.cell? ⟨g, p0 + 1, none⟩ = some (.int .u32 (q : Int)) ∧ W.cell? ⟨g, p0 + 2, none⟩ = some (.string b)) (by kernel_rfl) ⟨c1, c2⟩ (fun hS => ?_)
      have bU : Hid (Below wr.heap.size wr (World.drew wr)) := (Below.refl _ _).drew
      generalize World.drew wr = U at kT bU hS ⊢
      refine take_p 0 23 (.slice (some ⟨g, o, none⟩) m cap) rfl rfl (by kernel_rfl) (by kernel_rfl) (by kernel_rfl) (fun _ _ _ h => h) rfl (fun w => by go_simp) ?_
      try simp only [List.setIfInBounds_toArray, List.set_cons_zero, List.set_cons_succ]
      refine take_p 1 24 (.int .i64 (j : Int)) rfl rfl (by kernel_rfl) (by kernel_rfl) (by kernel_rfl) (fun _ _ _ h => h) rfl (fun w => by go_simp) ?_
      try simp only [List.setIfInBounds_toArray, List.set_cons_zero, List.set_cons_succ]
      refine take_p 2 25 (.pointer (some ⟨g, p0, none⟩)) rfl rfl (by kernel_rfl) (by kernel_rfl) (by kernel_rfl) (fun _ _ _ h => h) rfl (fun w => by go_simp) ?_
      try simp only [List.setIfInBounds_toArray, List.set_cons_zero, List.set_cons_succ]
      refine take_p 3 26 (.pointer (some ⟨g, p0 + 1, none⟩)) rfl rfl (by kernel_rfl) (by kernel_rfl) (by kernel_rfl) (fun _ _ _ h => h) rfl (fun w => by go_simp) ?_
      try simp only [List.setIfInBounds_toArray, List.set_cons_zero, List.set_cons_succ]
      refine take_f 4 27 (.int .u32 (q : Int)) [10, 11, 12, 13, 14, 15] rfl rfl (by kernel_rfl) (by kernel_rfl) (by kernel_rfl) (by kernel_rfl) (by kernel_rfl) (by kernel_rfl) (fun _ _ _ h => h) rfl (fun w hSw => by obtain ⟨g1, g2⟩ := hSw; go_simp) hS ?_
      try simp only [List.setIfInBounds_toArray, List.set_cons_zero, List.set_cons_succ]
      refine take_p 5 28 (.slice (some ⟨g, o, none⟩) m cap) rfl rfl (by kernel_rfl) (by kernel_rfl) (by kernel_rfl) (fun _ _ _ h => h) rfl (fun w => by go_simp) ?_
      try simp only [List.setIfInBounds_toArray, List.set_cons_zero, List.set_cons_succ]
      refine take_p 6 29 (.int .i64 (j : Int)) rfl rfl (by kernel_rfl) (by kernel_rfl) (by kernel_rfl) (fun _ _ _ h => h) rfl (fun w => by go_simp) ?_
      try simp only [List.setIfInBounds_toArray, List.set_cons_zero, List.set_cons_succ]
      refine take_p 7 30 (.pointer (some ⟨g, p0, none⟩)) rfl rfl (by kernel_rfl) (by kernel_rfl) (by kernel_rfl) (fun _ _ _ h => h) rfl (fun w => by go_simp) ?_
      try simp only [List.setIfInBounds_toArray, List.set_cons_zero, List.set_cons_succ]
      refine take_p 8 31 (.pointer (some ⟨g, p0 + 2, none⟩)) rfl rfl (by kernel_rfl) (by kernel_rfl) (by kernel_rfl) (fun _ _ _ h => h) rfl (fun w => by go_simp) ?_
      try simp only [List.setIfInBounds_toArray, List.set_cons_zero, List.set_cons_succ]
      refine take_f 9 32 (.string b) [10, 11, 12, 13, 14, 15] rfl rfl (by kernel_rfl) (by kernel_rfl) (by kernel_rfl) (by kernel_rfl) (by kernel_rfl) (by kernel_rfl) (fun _ _ _ h => h) rfl (fun w hSw => by obtain ⟨g1, g2⟩ := hSw; go_simp) hS ?_
      try simp only [List.setIfInBounds_toArray, List.set_cons_zero, List.set_cons_succ]
      refine ready_f 10 (o := { dst := some 33, op := Op.call { callee := Callee.value (Operand.func 20), args := #[Operand.tmp 3, Operand.tmp 27, Operand.tmp 32], argTypes := #[51, 22, 9] }, type := 54, pos := "law.go:70", after := #[{ on := 4, ground := Ground.data }, { on := 9, ground := Ground.data }], guard := none }) (by kernel_rfl) rfl (fun K hK => ?_)
      go_simp
      refine kT.out.mono ?_
      rintro e W1 ⟨v1, m1, rfl, hL1, hI1, hK1, hF1⟩
      refine hK.out _ _ (fun h => absurd (by decide) h) ?_
      clear hK K
      try simp only [Act.put, List.setIfInBounds_toArray, List.set_cons_zero, List.set_cons_succ]
      refine take_p 11 22 (.tuple #[v1, .int .i64 (cc : Int)]) rfl rfl (by kernel_rfl) (by kernel_rfl) (by kernel_rfl) (fun _ _ _ h => h) rfl (fun w => by go_simp) ?_
      try simp only [List.setIfInBounds_toArray, List.set_cons_zero, List.set_cons_succ]
      refine take_p 12 34 (v1) rfl rfl (by kernel_rfl) (by kernel_rfl) (by kernel_rfl) (fun _ _ _ h => h) rfl (fun w => by go_simp) ?_
      try simp only [List.setIfInBounds_toArray, List.set_cons_zero, List.set_cons_succ]
      refine take_p 13 35 (.int .i64 (cc : Int)) rfl rfl (by kernel_rfl) (by kernel_rfl) (by kernel_rfl) (fun _ _ _ h => h) rfl (fun w => by go_simp) ?_
      try simp only [List.setIfInBounds_toArray, List.set_cons_zero, List.set_cons_succ]
      refine take_p 14 6 (v1) rfl rfl (by kernel_rfl) (by kernel_rfl) (by kernel_rfl) (fun _ _ _ h => h) rfl (fun w => by go_simp) ?_
      try simp only [List.setIfInBounds_toArray, List.set_cons_zero, List.set_cons_succ]
      refine take_p 15 7 (.int .i64 (cc : Int)) rfl rfl (by kernel_rfl) (by kernel_rfl) (by kernel_rfl) (fun _ _ _ h => h) rfl (fun w => by go_simp) ?_
      try simp only [List.setIfInBounds_toArray, List.set_cons_zero, List.set_cons_succ]
      refine done_f (by kernel_rfl) ?_ _
      have BIU := hide1 (BI.out.below bU.out)
      have TK := hide1 (BIU.out.took (by have := BS.out; have := bU.out.size; omega) hI1 hK1 hF1)
      have B1 : Hid (Below B w W1) := (B0.out.trans (bU.out.mono BS.out)).trans TK.out.2
      have BJ := hide1 TK.out.1
      have L1 : Hid (Lst wr.heap.size W1 v1 O2) := hL1.mono bU.out.size
      have D1 := HC.out W1 B1.out
      have BS1 : Hid (wr.heap.size ≤ W1.heap.size ∧ B ≤ W1.heap.size) := by
        have h1 := bU.out.size
        have h2 := hK1.size
        have h3 := BS.out
        exact ⟨by omega, by omega⟩
      clear hL1 hI1 hK1 hF1 TK BIU kT bU hS c1 c2 BI h3 B0
      go_upto_region 7 with (fail)
      refine region_f (F := [18]) (S := fun W => Below W1.heap.size W1 W) (by kernel_rfl) ((Below.refl _ _).drew) (fun hS => ?_)
      generalize World.drew W1 = U at hS ⊢
      have BJU := hide1 (BJ.out.below hS)
      have hr1 := lt_heap BJ.out.row
      have hg1 := block_lt_of_cell D1.1
      simp only at hg1
      have hrw := BJ.out.row
      rw [SA.out.1] at hrw
      obtain ⟨x0, x1, _, _, _⟩ := box2 hrw
      refine take_f 0 37 (.agg #[.int .i64 (A1 : Int), u]) [12, 13, 14, 15, 16, 18, 19, 20] rfl rfl (by kernel_rfl) (by kernel_rfl) (by kernel_rfl) (by kernel_rfl) (by kernel_rfl) (by kernel_rfl) (fun _ _ _ h => h) rfl (fun w hSw => by have e0 := (hSw.cell (p := ⟨r, 0, none⟩) hr1).trans x0; have e1 := (hSw.cell (p := ⟨r, 1, none⟩) hr1).trans x1; have e2 := (hSw.cell (p := ⟨g, p0 + 1, none⟩) hg1).trans D1.1; have e3 := (hSw.cell (p := ⟨g, p0 + 2, none⟩) hg1).trans D1.2; go_simp) hS ?_
      try simp only [List.setIfInBounds_toArray, List.set_cons_zero, List.set_cons_succ]
      refine take_p 1 38 (.slice (some ⟨g, o, none⟩) m cap) rfl rfl (by kernel_rfl) (by kernel_rfl) (by kernel_rfl) (fun _ _ _ h => h) rfl (fun w => by go_simp) ?_
      try simp only [List.setIfInBounds_toArray, List.set_cons_zero, List.set_cons_succ]
      refine take_p 2 39 (.int .i64 (j : Int)) rfl rfl (by kernel_rfl) (by kernel_rfl) (by kernel_rfl) (fun _ _ _ h => h) rfl (fun w => by go_simp) ?_
      try simp only [List.setIfInBounds_toArray, List.set_cons_zero, List.set_cons_succ]
      refine take_p 3 40 (.pointer (some ⟨g, p0, none⟩)) rfl rfl (by kernel_rfl) (by kernel_rfl) (by kernel_rfl) (fun _ _ _ h => h) rfl (fun w => by go_simp) ?_
      try simp only [List.setIfInBounds_toArray, List.set_cons_zero, List.set_cons_succ]
      refine take_p 4 41 (.pointer (some ⟨g, p0 + 1, none⟩)) rfl rfl (by kernel_rfl) (by kernel_rfl) (by kernel_rfl) (fun _ _ _ h => h) rfl (fun w => by go_simp) ?_
      try simp only [List.setIfInBounds_toArray, List.set_cons_zero, List.set_cons_succ]
      refine take_f 5 42 (.int .u32 (q : Int)) [6, 12, 13, 14, 15, 16, 18, 19, 20] rfl rfl (by kernel_rfl) (by kernel_rfl) (by kernel_rfl) (by kernel_rfl) (by kernel_rfl) (by kernel_rfl) (fun _ _ _ h => h) rfl (fun w hSw => by have e0 := (hSw.cell (p := ⟨r, 0, none⟩) hr1).trans x0; have e1 := (hSw.cell (p := ⟨r, 1, none⟩) hr1).trans x1; have e2 := (hSw.cell (p := ⟨g, p0 + 1, none⟩) hg1).trans D1.1; have e3 := (hSw.cell (p := ⟨g, p0 + 2, none⟩) hg1).trans D1.2; go_simp) hS ?_
      try simp only [List.setIfInBounds_toArray, List.set_cons_zero, List.set_cons_succ]
      refine take_p 6 43 (.int .i64 (q : Int)) rfl rfl (by kernel_rfl) (by kernel_rfl) (by kernel_rfl) (fun _ _ _ h => h) rfl (fun w => by have e9 := HQ.out; go_simp; rw [IntKind.wrap_i64]; omega) ?_
      try simp only [List.setIfInBounds_toArray, List.set_cons_zero, List.set_cons_succ]
      refine take_p 7 44 (.slice (some ⟨g, o, none⟩) m cap) rfl rfl (by kernel_rfl) (by kernel_rfl) (by kernel_rfl) (fun _ _ _ h => h) rfl (fun w => by go_simp) ?_
      try simp only [List.setIfInBounds_toArray, List.set_cons_zero, List.set_cons_succ]
      refine take_p 8 45 (.int .i64 (j : Int)) rfl rfl (by kernel_rfl) (by kernel_rfl) (by kernel_rfl) (fun _ _ _ h => h) rfl (fun w => by go_simp) ?_
      try simp only [List.setIfInBounds_toArray, List.set_cons_zero, List.set_cons_succ]
      refine take_p 9 46 (.pointer (some ⟨g, p0, none⟩)) rfl rfl (by kernel_rfl) (by kernel_rfl) (by kernel_rfl) (fun _ _ _ h => h) rfl (fun w => by go_simp) ?_
      try simp only [List.setIfInBounds_toArray, List.set_cons_zero, List.set_cons_succ]
      refine take_p 10 47 (.pointer (some ⟨g, p0 + 2, none⟩)) rfl rfl (by kernel_rfl) (by kernel_rfl) (by kernel_rfl) (fun _ _ _ h => h) rfl (fun w => by go_simp) ?_
      try simp only [List.setIfInBounds_toArray, List.set_cons_zero, List.set_cons_succ]
      refine take_f 11 48 (.string b) [12, 13, 14, 15, 16, 18, 19, 20] rfl rfl (by kernel_rfl) (by kernel_rfl) (by kernel_rfl) (by kernel_rfl) (by kernel_rfl) (by kernel_rfl) (fun _ _ _ h => h) rfl (fun w hSw => by have e0 := (hSw.cell (p := ⟨r, 0, none⟩) hr1).trans x0; have e1 := (hSw.cell (p := ⟨r, 1, none⟩) hr1).trans x1; have e2 := (hSw.cell (p := ⟨g, p0 + 1, none⟩) hg1).trans D1.1; have e3 := (hSw.cell (p := ⟨g, p0 + 2, none⟩) hg1).trans D1.2; go_simp) hS ?_
      try simp only [List.setIfInBounds_toArray, List.set_cons_zero, List.set_cons_succ]
      refine ready2_f 12 17 (o := { dst := some 49, op := Op.call { callee := Callee.value (Operand.func 21), args := #[Operand.tmp 37, Operand.tmp 43, Operand.tmp 48], argTypes := #[53, 3, 9] }, type := 56, pos := "law.go:71", after := #[{ on := 0, ground := Ground.data }, { on := 6, ground := Ground.data }, { on := 11, ground := Ground.data }], guard := none }) (o' := { dst := some 8, op := Op.alloc 53, type := 0, pos := "law.go:71", after := #[], guard := none }) (by kernel_rfl) rfl rfl (fun K hK => ?oa) (fun K hK => ?ob)
      case' oa =>
        go_simp
        refine (kR.out _ BJU.out.rd).mono ?_
        rintro e W2 ⟨u2, v2, rfl, hR2, hL2, hB2, hO2⟩
        obtain ⟨ua, uc, hu2, _⟩ := id hR2
        rw [HN2.out] at hu2
        subst hu2
        refine hK.out _ _ (fun _ h => h.trans (hB2.mono h.size)) ?_
        clear hK K
        try simp only [Act.put, List.setIfInBounds_toArray, List.set_cons_zero, List.set_cons_succ]
        refine take_p 13 36 (.tuple #[.agg #[.int .i64 (A2 : Int), .slice ua n2 uc], v2, .int .i64 (cc : Int)]) rfl rfl (by kernel_rfl) (by kernel_rfl) (by kernel_rfl) (fun _ _ _ h => h) rfl (fun w => by go_simp) ?_
        try simp only [List.setIfInBounds_toArray, List.set_cons_zero, List.set_cons_succ]
        refine take_p 14 50 (.agg #[.int .i64 (A2 : Int), .slice ua n2 uc]) rfl rfl (by kernel_rfl) (by kernel_rfl) (by kernel_rfl) (fun _ _ _ h => h) rfl (fun w => by go_simp) ?_
        try simp only [List.setIfInBounds_toArray, List.set_cons_zero, List.set_cons_succ]
        refine take_p 15 51 (v2) rfl rfl (by kernel_rfl) (by kernel_rfl) (by kernel_rfl) (fun _ _ _ h => h) rfl (fun w => by go_simp) ?_
        try simp only [List.setIfInBounds_toArray, List.set_cons_zero, List.set_cons_succ]
        refine take_p 16 52 (.int .i64 (cc : Int)) rfl rfl (by kernel_rfl) (by kernel_rfl) (by kernel_rfl) (fun _ _ _ h => h) rfl (fun w => by go_simp) ?_
        try simp only [List.setIfInBounds_toArray, List.set_cons_zero, List.set_cons_succ]
        refine ready_f 17 (o := { dst := some 8, op := Op.alloc 53, type := 0, pos := "law.go:71", after := #[], guard := none }) (by kernel_rfl) rfl (fun K hK => ?_)
        go_simp
        refine hK.out _ _ (fun _ h => h.alloc h.size _) ?_
        clear hK K
        try simp only [Act.put, List.setIfInBounds_toArray, List.set_cons_zero, List.set_cons_succ]
        have MD := hide1 (md_call A2 hR2 hL2 hB2 hO2 (.int .i64 0) (.slice none 0 0))
        obtain ⟨k0, _, f0, _, _⟩ := box2 (heap_alloc_new W2 (.cells #[.int .i64 0, .slice none 0 0] 53))
        obtain ⟨f1, k1⟩ := free2 (x' := .int .i64 (A2 : Int)) (heap_alloc_new W2 (.cells #[.int .i64 0, .slice none 0 0] 53))
        generalize hg9 : W2.heap.size = g9 at MD f0 f1 k0 k1 ⊢
        generalize W2.alloc (.cells #[.int .i64 0, .slice none 0 0] 53) = W3 at MD f0 f1 k0 k1 ⊢
        refine ready_f 18 (o := { dst := none, op := Op.store 53 (Operand.tmp 8) (Operand.tmp 50), type := 0, pos := "law.go:71", after := #[{ on := 17, ground := Ground.data }, { on := 14, ground := Ground.data }, { on := 12, ground := Ground.chain }, { on := 0, ground := Ground.phase }, { on := 1, ground := Ground.phase }, { on := 2, ground := Ground.phase }, { on := 3, ground := Ground.phase }, { on := 4, ground := Ground.phase }, { on := 5, ground := Ground.phase }, { on := 6, ground := Ground.phase }, { on := 7, ground := Ground.phase }, { on := 8, ground := Ground.phase }, { on := 9, ground := Ground.phase }, { on := 10, ground := Ground.phase }, { on := 11, ground := Ground.phase }, { on := 12, ground := Ground.phase }, { on := 13, ground := Ground.phase }, { on := 14, ground := Ground.phase }, { on := 15, ground := Ground.textOnly Departure.lateStores }, { on := 16, ground := Ground.textOnly Departure.lateStores }, { on := 17, ground := Ground.phase }], guard := none }) (by kernel_rfl) rfl (fun K hK => ?_)
        go_simp
        refine hK.out _ _ (fun h => absurd (by decide) h) ?_
        clear hK K
        refine take_p 19 9 (v2) rfl rfl (by kernel_rfl) (by kernel_rfl) (by kernel_rfl) (fun _ _ _ h => h) rfl (fun w => by go_simp) ?_
        try simp only [List.setIfInBounds_toArray, List.set_cons_zero, List.set_cons_succ]
        refine take_p 20 10 (.int .i64 (cc : Int)) rfl rfl (by kernel_rfl) (by kernel_rfl) (by kernel_rfl) (fun _ _ _ h => h) rfl (fun w => by go_simp) ?_
        try simp only [List.setIfInBounds_toArray, List.set_cons_zero, List.set_cons_succ]
        refine done_f (by kernel_rfl) ?_ _
        generalize (W3.setCell ⟨g9, 0, none⟩ (.int .i64 (A2 : Int))).setCell ⟨g9, 1, none⟩ (.slice ua n2 uc) = W5 at MD ⊢
        clear k0 k1 f0 f1
        clear hR2 hL2 hB2 hO2
      case' ob =>
        go_simp
        refine hK.out _ _ (fun _ h => h.alloc h.size _) ?_
        clear hK K
        try simp only [Act.put, List.setIfInBounds_toArray, List.set_cons_zero, List.set_cons_succ]
        have RB := BJU.out.rd.below (below1 (.cells #[.int .i64 0, .slice none 0 0] 53)) (Nat.le_refl _)
        refine ready_f 12 (o := { dst := some 49, op := Op.call { callee := Callee.value (Operand.func 21), args := #[Operand.tmp 37, Operand.tmp 43, Operand.tmp 48], argTypes := #[53, 3, 9] }, type := 56, pos := "law.go:71", after := #[{ on := 0, ground := Ground.data }, { on := 6, ground := Ground.data }, { on := 11, ground := Ground.data }], guard := none }) (by kernel_rfl) rfl (fun K hK => ?_)
        go_simp
        refine (kR.out _ RB).mono ?_
        rintro e W2 ⟨u2, v2, rfl, hR2, hL2, hB2, hO2⟩
        obtain ⟨ua, uc, hu2, _⟩ := id hR2
        rw [HN2.out] at hu2
        subst hu2
        refine hK.out _ _ (fun _ h => h.trans (hB2.mono h.size)) ?_
        clear hK K
        try simp only [Act.put, List.setIfInBounds_toArray, List.set_cons_zero, List.set_cons_succ]
        have MD := hide1 (md_box A2 hR2 hL2 hB2 BJU.out.rd hO2)
        have r9 := (hB2.block _ (by simp)).trans (heap_alloc_new U (.cells #[.int .i64 0, .slice none 0 0] 53))
        obtain ⟨k0, _, f0, _, _⟩ := box2 r9
        obtain ⟨f1, k1⟩ := free2 (x' := .int .i64 (A2 : Int)) r9
        clear r9 RB hR2 hL2 hB2 hO2
        generalize hg9 : U.heap.size = g9 at MD f0 f1 k0 k1 ⊢
        obtain ⟨W3, hW3⟩ : ∃ W3, W2 = W3 := ⟨_, rfl⟩
        subst hW3
        refine take_p 13 36 (.tuple #[.agg #[.int .i64 (A2 : Int), .slice ua n2 uc], v2, .int .i64 (cc : Int)]) rfl rfl (by kernel_rfl) (by kernel_rfl) (by kernel_rfl) (fun _ _ _ h => h) rfl (fun w => by go_simp) ?_
        try simp only [List.setIfInBounds_toArray, List.set_cons_zero, List.set_cons_succ]
        refine take_p 14 50 (.agg #[.int .i64 (A2 : Int), .slice ua n2 uc]) rfl rfl (by kernel_rfl) (by kernel_rfl) (by kernel_rfl) (fun _ _ _ h => h) rfl (fun w => by go_simp) ?_
        try simp only [List.setIfInBounds_toArray, List.set_cons_zero, List.set_cons_succ]
        refine take_p 15 51 (v2) rfl rfl (by kernel_rfl) (by kernel_rfl) (by kernel_rfl) (fun _ _ _ h => h) rfl (fun w => by go_simp) ?_
        try simp only [List.setIfInBounds_toArray, List.set_cons_zero, List.set_cons_succ]
        refine take_p 16 52 (.int .i64 (cc : Int)) rfl rfl (by kernel_rfl) (by kernel_rfl) (by kernel_rfl) (fun _ _ _ h => h) rfl (fun w => by go_simp) ?_
        try simp only [List.setIfInBounds_toArray, List.set_cons_zero, List.set_cons_succ]
        refine ready_f 18 (o := { dst := none, op := Op.store 53 (Operand.tmp 8) (Operand.tmp 50), type := 0, pos := "law.go:71", after := #[{ on := 17, ground := Ground.data }, { on := 14, ground := Ground.data }, { on := 12, ground := Ground.chain }, { on := 0, ground := Ground.phase }, { on := 1, ground := Ground.phase }, { on := 2, ground := Ground.phase }, { on := 3, ground := Ground.phase }, { on := 4, ground := Ground.phase }, { on := 5, ground := Ground.phase }, { on := 6, ground := Ground.phase }, { on := 7, ground := Ground.phase }, { on := 8, ground := Ground.phase }, { on := 9, ground := Ground.phase }, { on := 10, ground := Ground.phase }, { on := 11, ground := Ground.phase }, { on := 12, ground := Ground.phase }, { on := 13, ground := Ground.phase }, { on := 14, ground := Ground.phase }, { on := 15, ground := Ground.textOnly Departure.lateStores }, { on := 16, ground := Ground.textOnly Departure.lateStores }, { on := 17, ground := Ground.phase }], guard := none }) (by kernel_rfl) rfl (fun K hK => ?_)
        go_simp
        refine hK.out _ _ (fun h => absurd (by decide) h) ?_
        clear hK K
        refine take_p 19 9 (v2) rfl rfl (by kernel_rfl) (by kernel_rfl) (by kernel_rfl) (fun _ _ _ h => h) rfl (fun w => by go_simp) ?_
        try simp only [List.setIfInBounds_toArray, List.set_cons_zero, List.set_cons_succ]
        refine take_p 20 10 (.int .i64 (cc : Int)) rfl rfl (by kernel_rfl) (by kernel_rfl) (by kernel_rfl) (fun _ _ _ h => h) rfl (fun w => by go_simp) ?_
        try simp only [List.setIfInBounds_toArray, List.set_cons_zero, List.set_cons_succ]
        refine done_f (by kernel_rfl) ?_ _
        generalize (W2.setCell ⟨g9, 0, none⟩ (.int .i64 (A2 : Int))).setCell ⟨g9, 1, none⟩ (.slice ua n2 uc) = W5 at MD ⊢
        clear k0 k1 f0 f1
      all_goals
        have BJ5 := hide1 (BJU.out.below MD.out.bel)
        have hr5 := BJ5.out.row
        rw [SA.out.1] at hr5
        obtain ⟨_, _, f0, _, _⟩ := box2 hr5
        obtain ⟨f1, _⟩ := free2 (x' := .int .i64 (A2 : Int)) hr5
        obtain ⟨d0, d1, _, _, _⟩ := box2 MD.out.row
        obtain ⟨e0, e1, _, _, _⟩ := box2 hr5
        obtain ⟨_, e1'⟩ := free2 (x' := .int .i64 (A2 : Int)) hr5
        have K6 : Hid (Kp (fun k => k = r) W5 ((W5.setCell ⟨r, 0, none⟩ (.int .i64 (A2 : Int))).setCell ⟨r, 1, none⟩ (.slice ua n2 uc))) := (Kp.setCell (F := fun k => k = r) W5 r 0 _ rfl).trans (Kp.setCell (F := fun k => k = r) _ r 1 _ rfl)
        have B5 : Hid (Below B w W5) := (B1.out.trans (hS.mono BS1.out.2)).trans (MD.out.bel.mono (by have := hS.size; have := BS1.out.2; omega))
        have B6 : Hid (Below B w ((W5.setCell ⟨r, 0, none⟩ (.int .i64 (A2 : Int))).setCell ⟨r, 1, none⟩ (.slice ua n2 uc))) := below_set2 B5.out BJ.out.br
        have BI6 : Hid (Bi B B r m1 (.slice ua n2 uc) a2 (j + 1) L2 ((W5.setCell ⟨r, 0, none⟩ (.int .i64 (A2 : Int))).setCell ⟨r, 1, none⟩ (.slice ua n2 uc))) := by
          have h9 := BJU.out.stored MD.out.bel MD.out.rd MD.out.own
          rw [SA.out.2] at h9
          exact h9
        have hrU : r < W1.heap.size := hr1
        have V1 : Hid (Rdl ((W5.setCell ⟨r, 0, none⟩ (.int .i64 (A2 : Int))).setCell ⟨r, 1, none⟩ (.slice ua n2 uc)) v1 O2) := by
          have h9 := (L1.out.below hS (Nat.le_refl _)).below MD.out.bel (Nat.le_refl _)
          exact (h9.kp K6.out fun k hk e => by
            have := (h9.lt hk).1
            have := RLT.out
            omega).rd
        have V2 : Hid (Rdl ((W5.setCell ⟨r, 0, none⟩ (.int .i64 (A2 : Int))).setCell ⟨r, 1, none⟩ (.slice ua n2 uc)) v2 O2) := (MD.out.ls.kp K6.out fun k hk e => by
            have := (MD.out.ls.lt hk).1
            have := hS.size
            omega).rd
        clear BJ BJ5 BJU MD B5 L1 K6 hS hr5 x0 x1 hrw hg1 D1
        go_upto_region 9 with (fail)
        generalize (W5.setCell ⟨r, 0, none⟩ (.int .i64 (A2 : Int))).setCell ⟨r, 1, none⟩ (.slice ua n2 uc) = W6 at V1 V2 BI6 B6 ⊢
        clear e0 e1 e1' d0 d1 f0 f1
        have hr6 := BI6.out.row
        rw [SA.out.2] at hr6
        have S6 : Hid (W6.cell? ⟨r, 0, none⟩ = some (.int .i64 (A2 : Int)) ∧ W6.cell? ⟨r, 1, none⟩ = some (.slice ua n2 uc) ∧ r < W6.heap.size) := ⟨(box2 hr6).1, (box2 hr6).2.1, (box2 hr6).2.2.2.2⟩
        clear hr6
        refine region_f (F := []) (S := fun W => W.cell? ⟨r, 0, none⟩ = some (.int .i64 (A2 : Int)) ∧ W.cell? ⟨r, 1, none⟩ = some (.slice ua n2 uc) ∧ r < W.heap.size) (by kernel_rfl) S6.out (fun hS => ?_)
        have bU6 : Hid (Below W6.heap.size W6 (World.drew W6)) := (Below.refl _ _).drew
        generalize World.drew W6 = X0 at hS bU6 ⊢
        refine take_p 0 54 (v1) rfl rfl (by kernel_rfl) (by kernel_rfl) (by kernel_rfl) (fun _ _ _ h => h) rfl (fun w => by go_simp) ?_
        try simp only [List.setIfInBounds_toArray, List.set_cons_zero, List.set_cons_succ]
        refine take_p 1 55 (v2) rfl rfl (by kernel_rfl) (by kernel_rfl) (by kernel_rfl) (fun _ _ _ h => h) rfl (fun w => by go_simp) ?_
        try simp only [List.setIfInBounds_toArray, List.set_cons_zero, List.set_cons_succ]
        refine ready_f 2 (o := { dst := some 56, op := Op.call { callee := Callee.value (Operand.func 22), args := #[Operand.tmp 54, Operand.tmp 55], argTypes := #[27, 27] }, type := 4, pos := "law.go:73", after := #[{ on := 0, ground := Ground.data }, { on := 1, ground := Ground.data }], guard := none }) (by kernel_rfl) rfl (fun K hK => ?_)
        go_simp
        refine (texts_any (V1.out.below bU6.out (Nat.le_refl _)) (V2.out.below bU6.out (Nat.le_refl _)) (by have := OL.out; omega)).mono ?_
        rintro e X1 ⟨rfl, hb⟩
        refine hK.out _ _ (fun _ h => ⟨(hb.cell (p := ⟨r, 0, none⟩) h.2.2).trans h.1, (hb.cell (p := ⟨r, 1, none⟩) h.2.2).trans h.2.1, Nat.lt_of_lt_of_le h.2.2 hb.size⟩) ?_
        clear hK K
        try simp only [Act.put, List.setIfInBounds_toArray, List.set_cons_zero, List.set_cons_succ]
        replace hS : X1.cell? ⟨r, 0, none⟩ = some (.int .i64 (A2 : Int)) ∧ X1.cell? ⟨r, 1, none⟩ = some (.slice ua n2 uc) ∧ r < X1.heap.size := ⟨(hb.cell (p := ⟨r, 0, none⟩) hS.2.2).trans hS.1, (hb.cell (p := ⟨r, 1, none⟩) hS.2.2).trans hS.2.1, Nat.lt_of_lt_of_le hS.2.2 hb.size⟩
        replace bU6 : Hid (Below W6.heap.size W6 X1) := bU6.out.trans (hb.mono bU6.out.size)
        clear hb
        refine take_p 3 57 (.bool false) rfl rfl (by kernel_rfl) (by kernel_rfl) (by kernel_rfl) (fun _ _ _ h => h) rfl (fun w => by go_simp) ?_
        try simp only [List.setIfInBounds_toArray, List.set_cons_zero, List.set_cons_succ]
        refine take_p 4 58 (.bool false) rfl rfl (by kernel_rfl) (by kernel_rfl) (by kernel_rfl) (fun _ _ _ h => h) rfl (fun w => by go_simp) ?_
        try simp only [List.setIfInBounds_toArray, List.set_cons_zero, List.set_cons_succ]
        refine take_p 5 59 (.int .i64 (cc : Int)) rfl rfl (by kernel_rfl) (by kernel_rfl) (by kernel_rfl) (fun _ _ _ h => h) rfl (fun w => by go_simp) ?_
        try simp only [List.setIfInBounds_toArray, List.set_cons_zero, List.set_cons_succ]
        refine take_p 6 60 (.int .i64 (cc : Int)) rfl rfl (by kernel_rfl) (by kernel_rfl) (by kernel_rfl) (fun _ _ _ h => h) rfl (fun w => by go_simp) ?_
        try simp only [List.setIfInBounds_toArray, List.set_cons_zero, List.set_cons_succ]
        refine take_p 7 61 (.bool false) rfl rfl (by kernel_rfl) (by kernel_rfl) (by kernel_rfl) (fun _ _ _ h => h) rfl (fun w => by go_simp) ?_
        try simp only [List.setIfInBounds_toArray, List.set_cons_zero, List.set_cons_succ]
        refine take_p 8 62 (.bool false) rfl rfl (by kernel_rfl) (by kernel_rfl) (by kernel_rfl) (fun _ _ _ h => h) rfl (fun w => by go_simp) ?_
        try simp only [List.setIfInBounds_toArray, List.set_cons_zero, List.set_cons_succ]
        refine take_p 9 63 (.bool false) rfl rfl (by kernel_rfl) (by kernel_rfl) (by kernel_rfl) (fun _ _ _ h => h) rfl (fun w => by go_simp) ?_
        try simp only [List.setIfInBounds_toArray, List.set_cons_zero, List.set_cons_succ]
        refine take_p 12 66 (.pointer (some ⟨r, 0, none⟩)) rfl rfl (by kernel_rfl) (by kernel_rfl) (by kernel_rfl) (fun _ _ _ h => h) rfl (fun w => by go_simp) ?_
        try simp only [List.setIfInBounds_toArray, List.set_cons_zero, List.set_cons_succ]
        refine take_f 13 67 (.int .i64 (A2 : Int)) [14, 15, 16, 17, 18, 19, 20, 21, 22, 23, 24, 25, 26, 27, 28, 29] rfl rfl (by kernel_rfl) (by kernel_rfl) (by kernel_rfl) (by kernel_rfl) (by kernel_rfl) (by kernel_rfl) (fun _ _ _ h => h) rfl (fun w hSw => by obtain ⟨g0, g1, g2⟩ := hSw; go_simp) hS ?_
        try simp only [List.setIfInBounds_toArray, List.set_cons_zero, List.set_cons_succ]
        have kA := awaited_any (BI6.out.below bU6.out).inm (by have h1 := AJ2.out; omega)
        rw [SA.out.2] at kA
        refine ready_f 10 (o := { dst := some 64, op := Op.call { callee := Callee.value (Operand.func 23), args := #[Operand.tmp 3], argTypes := #[51] }, type := 22, pos := "law.go:73", after := #[{ on := 9, ground := Ground.chain }, { on := 9, ground := Ground.guard }], guard := some (9, false) }) (by kernel_rfl) rfl (fun K hK => ?_)
        go_simp
        refine kA.mono ?_
        rintro e X2 ⟨rfl, hX2⟩
        obtain rfl := hX2.symm
        refine hK.out _ _ (fun _ h => h) ?_
        clear hK K
        try simp only [Act.put, List.setIfInBounds_toArray, List.set_cons_zero, List.set_cons_succ]
        clear kA
        refine take_p 11 65 (.int .i64 (A2 : Int)) rfl rfl (by kernel_rfl) (by kernel_rfl) (by kernel_rfl) (fun _ _ _ h => h) rfl (fun w => by have h1 := AJ2.out; have h2 := SA.out.2; go_simp; rw [IntKind.wrap_i64]; omega) ?_
        try simp only [List.setIfInBounds_toArray, List.set_cons_zero, List.set_cons_succ]
        refine take_p 14 68 (.bool false) rfl rfl (by kernel_rfl) (by kernel_rfl) (by kernel_rfl) (fun _ _ _ h => h) rfl (fun w => by go_simp) ?_
        try simp only [List.setIfInBounds_toArray, List.set_cons_zero, List.set_cons_succ]
        refine take_p 15 69 (.bool false) rfl rfl (by kernel_rfl) (by kernel_rfl) (by kernel_rfl) (fun _ _ _ h => h) rfl (fun w => by go_simp) ?_
        try simp only [List.setIfInBounds_toArray, List.set_cons_zero, List.set_cons_succ]
        refine take_p 16 70 (.bool false) rfl rfl (by kernel_rfl) (by kernel_rfl) (by kernel_rfl) (fun _ _ _ h => h) rfl (fun w => by go_simp) ?_
        try simp only [List.setIfInBounds_toArray, List.set_cons_zero, List.set_cons_succ]
        refine take_p 19 73 (.pointer (some ⟨r, 1, none⟩)) rfl rfl (by kernel_rfl) (by kernel_rfl) (by kernel_rfl) (fun _ _ _ h => h) rfl (fun w => by go_simp) ?_
        try simp only [List.setIfInBounds_toArray, List.set_cons_zero, List.set_cons_succ]
        refine take_f 20 74 (.slice ua n2 uc) [21, 22, 23, 24, 25, 26, 27, 28, 29] rfl rfl (by kernel_rfl) (by kernel_rfl) (by kernel_rfl) (by kernel_rfl) (by kernel_rfl) (by kernel_rfl) (fun _ _ _ h => h) rfl (fun w hSw => by obtain ⟨g0, g1, g2⟩ := hSw; go_simp) hS ?_
        try simp only [List.setIfInBounds_toArray, List.set_cons_zero, List.set_cons_succ]
        refine ready_f 17 (o := { dst := some 71, op := Op.call { callee := Callee.value (Operand.func 24), args := #[Operand.tmp 3], argTypes := #[51] }, type := 43, pos := "law.go:73", after := #[{ on := 16, ground := Ground.chain }, { on := 16, ground := Ground.guard }], guard := some (16, false) }) (by kernel_rfl) rfl (fun K hK => ?_)
        go_simp
        refine (held_any (BI6.out.below bU6.out).inm HD2.out SZ2.out (by have h1 := AJ2.out; omega)).mono ?_
        rintro e X3 ⟨z1, rfl, hz1, hb⟩
        refine hK.out _ _ (fun _ h => ⟨(hb.cell (p := ⟨r, 0, none⟩) h.2.2).trans h.1, (hb.cell (p := ⟨r, 1, none⟩) h.2.2).trans h.2.1, Nat.lt_of_lt_of_le h.2.2 hb.size⟩) ?_
        clear hK K
        try simp only [Act.put, List.setIfInBounds_toArray, List.set_cons_zero, List.set_cons_succ]
        replace hS : X3.cell? ⟨r, 0, none⟩ = some (.int .i64 (A2 : Int)) ∧ X3.cell? ⟨r, 1, none⟩ = some (.slice ua n2 uc) ∧ r < X3.heap.size := ⟨(hb.cell (p := ⟨r, 0, none⟩) hS.2.2).trans hS.1, (hb.cell (p := ⟨r, 1, none⟩) hS.2.2).trans hS.2.1, Nat.lt_of_lt_of_le hS.2.2 hb.size⟩
        replace bU6 : Hid (Below W6.heap.size W6 X3) := bU6.out.trans (hb.mono bU6.out.size)
        clear hb
        refine ready_f 18 (o := { dst := some 72, op := Op.call { callee := Callee.value (Operand.func 14), args := #[Operand.tmp 71], argTypes := #[43] }, type := 41, pos := "law.go:73", after := #[{ on := 17, ground := Ground.data }, { on := 17, ground := Ground.chain }, { on := 16, ground := Ground.guard }], guard := some (16, false) }) (by kernel_rfl) rfl (fun K hK => ?_)
        go_simp
        refine (told_any hz1.rd (by have := HD2.out.len; omega)).mono ?_
        rintro e X4 ⟨z2, rfl, hz2, hb⟩
        refine hK.out _ _ (fun _ h => ⟨(hb.cell (p := ⟨r, 0, none⟩) h.2.2).trans h.1, (hb.cell (p := ⟨r, 1, none⟩) h.2.2).trans h.2.1, Nat.lt_of_lt_of_le h.2.2 hb.size⟩) ?_
        clear hK K
        try simp only [Act.put, List.setIfInBounds_toArray, List.set_cons_zero, List.set_cons_succ]
        replace hS : X4.cell? ⟨r, 0, none⟩ = some (.int .i64 (A2 : Int)) ∧ X4.cell? ⟨r, 1, none⟩ = some (.slice ua n2 uc) ∧ r < X4.heap.size := ⟨(hb.cell (p := ⟨r, 0, none⟩) hS.2.2).trans hS.1, (hb.cell (p := ⟨r, 1, none⟩) hS.2.2).trans hS.2.1, Nat.lt_of_lt_of_le hS.2.2 hb.size⟩
        replace bU6 : Hid (Below W6.heap.size W6 X4) := bU6.out.trans (hb.mono bU6.out.size)
        clear hb
        refine ready_f 21 (o := { dst := some 75, op := Op.call { callee := Callee.value (Operand.func 13), args := #[Operand.tmp 72, Operand.tmp 74], argTypes := #[41, 41] }, type := 4, pos := "law.go:73", after := #[{ on := 18, ground := Ground.data }, { on := 20, ground := Ground.data }, { on := 18, ground := Ground.chain }, { on := 16, ground := Ground.guard }], guard := some (16, false) }) (by kernel_rfl) rfl (fun K hK => ?_)
        go_simp
        refine (same_any hz2.rd (BI6.out.rd.below bU6.out (Nat.le_refl _)) (by have := HD2.out.len; omega)).mono ?_
        rintro e X5 ⟨rfl, hb⟩
        refine hK.out _ _ (fun _ h => ⟨(hb.cell (p := ⟨r, 0, none⟩) h.2.2).trans h.1, (hb.cell (p := ⟨r, 1, none⟩) h.2.2).trans h.2.1, Nat.lt_of_lt_of_le h.2.2 hb.size⟩) ?_
        clear hK K
        try simp only [Act.put, List.setIfInBounds_toArray, List.set_cons_zero, List.set_cons_succ]
        clear hz1 hz2
        replace hS : X5.cell? ⟨r, 0, none⟩ = some (.int .i64 (A2 : Int)) ∧ X5.cell? ⟨r, 1, none⟩ = some (.slice ua n2 uc) ∧ r < X5.heap.size := ⟨(hb.cell (p := ⟨r, 0, none⟩) hS.2.2).trans hS.1, (hb.cell (p := ⟨r, 1, none⟩) hS.2.2).trans hS.2.1, Nat.lt_of_lt_of_le hS.2.2 hb.size⟩
        replace bU6 : Hid (Below W6.heap.size W6 X5) := bU6.out.trans (hb.mono bU6.out.size)
        clear hb
        refine take_p 22 76 (.bool false) rfl rfl (by kernel_rfl) (by kernel_rfl) (by kernel_rfl) (fun _ _ _ h => h) rfl (fun w => by go_simp) ?_
        try simp only [List.setIfInBounds_toArray, List.set_cons_zero, List.set_cons_succ]
        refine take_p 23 77 (.bool false) rfl rfl (by kernel_rfl) (by kernel_rfl) (by kernel_rfl) (fun _ _ _ h => h) rfl (fun w => by go_simp) ?_
        try simp only [List.setIfInBounds_toArray, List.set_cons_zero, List.set_cons_succ]
        refine take_p 24 78 (.bool false) rfl rfl (by kernel_rfl) (by kernel_rfl) (by kernel_rfl) (fun _ _ _ h => h) rfl (fun w => by go_simp) ?_
        try simp only [List.setIfInBounds_toArray, List.set_cons_zero, List.set_cons_succ]
        refine take_p 25 79 (.pointer (some ⟨r, 1, none⟩)) rfl rfl (by kernel_rfl) (by kernel_rfl) (by kernel_rfl) (fun _ _ _ h => h) rfl (fun w => by go_simp) ?_
        try simp only [List.setIfInBounds_toArray, List.set_cons_zero, List.set_cons_succ]
        refine take_f 26 80 (.slice ua n2 uc) [27, 28, 29] rfl rfl (by kernel_rfl) (by kernel_rfl) (by kernel_rfl) (by kernel_rfl) (by kernel_rfl) (by kernel_rfl) (fun _ _ _ h => h) rfl (fun w hSw => by obtain ⟨g0, g1, g2⟩ := hSw; go_simp) hS ?_
        try simp only [List.setIfInBounds_toArray, List.set_cons_zero, List.set_cons_succ]
        refine take_p 27 81 (.int .i64 (n2 : Int)) rfl rfl (by kernel_rfl) (by kernel_rfl) (by kernel_rfl) (fun _ _ _ h => h) rfl (fun w => by go_simp) ?_
        try simp only [List.setIfInBounds_toArray, List.set_cons_zero, List.set_cons_succ]
        have h16 : Hid (n2 < 16) := by have h1 := HD2.out.len; rw [HN2.out] at h1; unfold Hid; omega
        refine take_p 28 82 (.bool false) rfl rfl (by kernel_rfl) (by kernel_rfl) (by kernel_rfl) (fun _ _ _ h => h) rfl (fun w => by have h1 := h16.out; go_simp; omega) ?_
        try simp only [List.setIfInBounds_toArray, List.set_cons_zero, List.set_cons_succ]
        refine take_p 29 83 (.bool false) rfl rfl (by kernel_rfl) (by kernel_rfl) (by kernel_rfl) (fun _ _ _ h => h) rfl (fun w => by go_simp) ?_
        try simp only [List.setIfInBounds_toArray, List.set_cons_zero, List.set_cons_succ]
        refine done_f (by kernel_rfl) ?_ _
        have FIN : Hid (∃ (j' : Nat) (mm u : Value) (a : Nat) (l : List (Nat × ByteArray)), j' ≤ m ∧ j' ≤ 60 ∧ Value.int .i64 ((j : Int) + 1) = .int .i64 (j' : Int) ∧ a ≤ 16 * j' ∧ Bi B B r mm u a j' l X5 ∧ Hd a l ∧ Sz l ∧ Below B w X5) := ⟨j + 1, m1, _, a2, L2, by omega, by omega, by go_num, AJ2.out, BI6.out.below bU6.out, HD2.out, SZ2.out, B6.out.trans (bU6.out.mono (by have := B6.out.size; have := HB0.out; omega))⟩
        clear hS
        go_wp2
        exact ⟨FIN.out, by simp [intOf]; omega⟩
    · clear hBi hHd hSz hB haj
      by_cases h60 : j < 60
      · have hjm0 : j = m := by omega
        subst hjm0
        have h60i : (j : Int) < 60 := by omega
        have kA := hide1 (awake_any wr)
        go_wp2_with fail
        refine kA.out.mono ?_
        rintro e w2 ⟨rfl, hb2⟩
        have HB2 := hide1 hb2
        clear hb2
        go_wp2
        go_ret
        exact ⟨rfl, HB0.out ▸ B0.out.trans (HB2.out.mono BS.out)⟩
      · have h60i : ¬ (j : Int) < 60 := by omega
        by_cases hjm2 : j < m
        · have hjmi : (j : Int) < (m : Int) := by omega
          have kA := hide1 (awake_any wr)
          go_wp2_with fail
          refine kA.out.mono ?_
          rintro e w2 ⟨rfl, hb2⟩
          have HB2 := hide1 hb2
          clear hb2
          go_wp2
          go_ret
          exact ⟨rfl, HB0.out ▸ B0.out.trans (HB2.out.mono BS.out)⟩
        · have hjmi : ¬ (j : Int) < (m : Int) := by omega
          have kA := hide1 (awake_any wr)
          go_wp2_with fail
          refine kA.out.mono ?_
          rintro e w2 ⟨rfl, hb2⟩
          have HB2 := hide1 hb2
          clear hb2
          go_wp2
          go_ret
          exact ⟨rfl, HB0.out ▸ B0.out.trans (HB2.out.mono BS.out)⟩

end Go.Proofs.Ytjingknkjokldaa
