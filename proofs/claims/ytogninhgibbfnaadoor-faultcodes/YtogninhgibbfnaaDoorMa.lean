/- The loop that makes the document's nodes. -/
import Derived.Test.YtogninhgibbfnaaDoorO
import Derived.BigQuiet
import Derived.Deep.Cut
import Derived.Deep.QuietTactic
namespace Go.Proofs.YtogninhgibbfnaaDoor
open Go.RowKit Go.Shelf
set_option maxRecDepth 100000

def nodesOf (ss : List Rw) : List Rw := ss.foldl (fun l s => l ++ [nodeOf l s]) []
def infosOf (ss : List Rw) : List (Option Info) := ss.foldl (fun l s => l ++ [infoOf l s]) []
theorem nodesOf_snoc (ss : List Rw) (s : Rw) : nodesOf (ss ++ [s]) = nodesOf ss ++ [nodeOf (nodesOf ss) s] := by simp [nodesOf]
theorem infosOf_snoc (ss : List Rw) (s : Rw) : infosOf (ss ++ [s]) = infosOf ss ++ [infoOf (infosOf ss) s] := by simp [infosOf]
theorem take_snoc' {α : Type} (ss : List α) (k : Nat) (s : α) (h : ss[k]? = some s) : ss.take (k + 1) = ss.take k ++ [s] := by
  rw [List.take_add_one, h]
  rfl

theorem nodesOf_length_aux (ss l : List Rw) : (ss.foldl (fun l s => l ++ [nodeOf l s]) l).length = l.length + ss.length := by
  induction ss generalizing l with
  | nil => simp
  | cons s ss ih => simp [ih]; omega
theorem nodesOf_length (ss : List Rw) : (nodesOf ss).length = ss.length := by simp [nodesOf, nodesOf_length_aux]

theorem good_aux (ss : List Rw) (l : List Rw) (is : List (Option Info)) (h : Good l is) : Good (ss.foldl (fun l s => l ++ [nodeOf l s]) l) (ss.foldl (fun l s => l ++ [infoOf l s]) is) := by
  induction ss generalizing l is with
  | nil => exact h
  | cons s ss ih => exact ih _ _ (h.snoc s)
theorem good_of (ss : List Rw) : Good (nodesOf ss) (infosOf ss) := good_aux ss [] [] ⟨rfl, fun n r o h => by simp at h⟩

theorem kindI_at (l : List Rw) (x : Int) : kindI l (atI l.length x) = kindI l x := by
  unfold kindI
  rw [look_at]

theorem cells_new (W : World) (c : Array Value) (t : TypeId) : ∀ j u, c.toList[j]? = some u → (W.alloc (.cells c t)).cell? ((⟨W.heap.size, 0, none⟩ : Addr).add j) = some u := by
  intro j u hj
  rw [addr_add, World.cell?_alloc_new]
  simpa using hj

/- which of its ten ways a step goes -/
def Way (l : List Rw) (s : Rw) (k0 k1 k2 k3 c a b : Bool) : Prop :=
  (s.kind == 0) = k0 ∧ (s.kind == 1) = k1 ∧ (s.kind == 2) = k2 ∧ (s.kind == 3) = k3 ∧ (s.code != 0) = c ∧ (kindI l s.a != 0) = a ∧ (kindI l s.b != 0) = b

/- the argument's rows lie below n0 -/
def RowsIn (n0 : Nat) (W : World) (v : Value) (l : List Rw) : Prop :=
  ∃ a cap, v = .slice a l.length cap ∧ ∀ k r, l[k]? = some r → ∃ g o, g < n0 ∧ a = some ⟨g, o, none⟩ ∧
    W.cell? ⟨g, o + k * 5, none⟩ = some (.int .i64 r.kind) ∧ W.cell? ⟨g, o + k * 5 + 1, none⟩ = some (.int .i64 r.code) ∧ W.cell? ⟨g, o + k * 5 + 2, none⟩ = some (.string r.wh) ∧
    W.cell? ⟨g, o + k * 5 + 3, none⟩ = some (.int .i64 r.a) ∧ W.cell? ⟨g, o + k * 5 + 4, none⟩ = some (.int .i64 r.b)

theorem row_form {w : World} {base : Nat} {e : TypeId} {size n : Nat} {v : Value} {xs : List Value} (h : w.ownsRow base e size v n xs) : ∃ a c, v = .slice a n c := by
  rcases h.2 with ⟨rfl, rfl⟩ | ⟨g, cap, cur, rfl, _⟩
  · exact ⟨_, _, rfl⟩
  · exact ⟨_, _, rfl⟩

theorem cells_newN (W : World) (c : Array Value) (t : TypeId) (n : Nat) : ∀ j u, c.toList[j]? = some u → ((W.alloc (.cells c t)).drewN n).cell? ((⟨W.heap.size, 0, none⟩ : Addr).add j) = some u := cells_new W c t
theorem row_drewN {W : World} {base : Nat} {e : TypeId} {size k : Nat} {v : Value} {xs : List Value} (h : W.ownsRow base e size v k xs) (n : Nat) : (W.drewN n).ownsRow base e size v k xs := h
theorem rowsAt' {W : World} {base n : Nat} {v : Value} {l : List Rw} (h : W.ownsRow base 57 5 v n (rowsOf l)) (hn : l.length = n) : RowsAt W v l := by
  subst hn
  exact rowsAt_own h

theorem set5 {W : World} {b : Nat} {t : TypeId} {a0 a1 a2 a3 a4 : Value} (h : W.heap[b]? = some (.cells #[a0, a1, a2, a3, a4] t (0, 0))) (x0 x1 x2 x3 x4 : Value) :
    (((((W.setCell ⟨b, 0, none⟩ x0).setCell ⟨b, 1, none⟩ x1).setCell ⟨b, 2, none⟩ x2).setCell ⟨b, 3, none⟩ x3).setCell ⟨b, 4, none⟩ x4).heap[b]? = some (.cells #[x0, x1, x2, x3, x4] t (0, 0)) := by
  simp [World.setCell, Array.getElem?_modify, h]

theorem five_cells {W : World} {b : Nat} {t : TypeId} {a0 a1 a2 a3 a4 : Value} (h : W.heap[b]? = some (.cells #[a0, a1, a2, a3, a4] t (0, 0))) :
    W.cell? ⟨b, 0, none⟩ = some a0 ∧ W.cell? ⟨b, 1, none⟩ = some a1 ∧ W.cell? ⟨b, 2, none⟩ = some a2 ∧ W.cell? ⟨b, 3, none⟩ = some a3 ∧ W.cell? ⟨b, 4, none⟩ = some a4 := by
  refine ⟨?_, ?_, ?_, ?_, ?_⟩ <;> simp [World.cell?, h]

theorem not_frozen {W : World} {b : Nat} {t : TypeId} {c : Array Value} (h : W.heap[b]? = some (.cells c t (0, 0))) (j : Nat) : W.frozen? ⟨b, j, none⟩ = false := by simp [World.frozen?, h]

theorem set5_all {W w : World} {n m : Nat} {lv : Value} {xs : List Value} {a0 a1 a2 a3 a4 : Value} (hr : W.ownsRow w.heap.size 57 5 lv m xs) (hb : lv.ownBlock ≠ some (n + 1)) (hB : Below w.heap.size w W) (hn : w.heap.size ≤ n + 1) (hN : W.heap[n + 1]? = some (.cells #[a0, a1, a2, a3, a4] 57 (0, 0))) (hz : W.heap.size = n + 2) (x0 x1 x2 x3 x4 : Value) {W5 : World}
    (h5 : ((((W.setCell ⟨n + 1, 0, none⟩ x0).setCell ⟨n + 1, 1, none⟩ x1).setCell ⟨n + 1, 2, none⟩ x2).setCell ⟨n + 1, 3, none⟩ x3).setCell ⟨n + 1, 4, none⟩ x4 = W5) :
    W5.ownsRow w.heap.size 57 5 lv m xs ∧ Below w.heap.size w W5 ∧ W5.heap[n + 1]? = some (.cells #[x0, x1, x2, x3, x4] 57 (0, 0)) ∧ W5.heap.size = n + 2 := by
  subst h5
  refine ⟨⟨hr.1, ?_⟩, ((((hB.setCell (p := ⟨n + 1, 0, none⟩) hn _).setCell (p := ⟨n + 1, 1, none⟩) hn _).setCell (p := ⟨n + 1, 2, none⟩) hn _).setCell (p := ⟨n + 1, 3, none⟩) hn _).setCell (p := ⟨n + 1, 4, none⟩) hn _, set5 hN _ _ _ _ _, by simpa [World.setCell] using hz⟩
  rcases hr.2 with h0 | ⟨g, cap, cur, rfl, hg, hh, rest⟩
  · exact .inl h0
  · have hne : g ≠ n + 1 := by simpa [Value.ownBlock] using hb
    refine .inr ⟨g, cap, cur, rfl, hg, ?_, rest⟩
    rw [Below.heap_setCell _ _ _ _ hne, Below.heap_setCell _ _ _ _ hne, Below.heap_setCell _ _ _ _ hne, Below.heap_setCell _ _ _ _ hne, Below.heap_setCell _ _ _ _ hne]
    exact hh

theorem kind_calls' (v : Value) (l : List Rw) (hl : l.length ≤ 1000000) (x : Int) (W : World) (hv : RowsAt W v l) :
    Calls Tryd.prog 28 #[v, .int .i64 x] W fun e w' => e = .returned (.int .i64 (kindI l x)) ∧ W = w' :=
  (kind_calls v l hl x W hv).mono fun _ _ h => ⟨h.1, h.2.symm⟩

theorem set5_other {W W5 : World} {n : Nat} {x0 x1 x2 x3 x4 : Value} (h5 : ((((W.setCell ⟨n + 1, 0, none⟩ x0).setCell ⟨n + 1, 1, none⟩ x1).setCell ⟨n + 1, 2, none⟩ x2).setCell ⟨n + 1, 3, none⟩ x3).setCell ⟨n + 1, 4, none⟩ x4 = W5) (b : Nat) (hb : b ≠ n + 1) : W5.heap[b]? = W.heap[b]? := by
  subst h5
  rw [Below.heap_setCell _ _ _ _ hb, Below.heap_setCell _ _ _ _ hb, Below.heap_setCell _ _ _ _ hb, Below.heap_setCell _ _ _ _ hb, Below.heap_setCell _ _ _ _ hb]

theorem look_some {l : List Rw} {x : Int} (h : kindI l x ≠ 0) : ∃ (k : Nat) (r : Rw), x = k ∧ k < l.length ∧ l[k]? = some r ∧ look l x = some r := by
  unfold kindI at h
  cases hx : look l x with
  | none => simp [hx] at h
  | some r =>
    unfold look at hx
    by_cases h0 : x < 0
    · simp [h0] at hx
    · simp [h0] at hx
      exact ⟨x.toNat, r, by omega, (List.getElem?_eq_some_iff.1 hx).1, hx, rfl⟩

set_option maxHeartbeats 20000000 in
theorem nodes_any (w : World) (v : Value) (ss : List Rw) (hv : RowsIn w.heap.size w v ss) (hl : ss.length ≤ 1000) :
    Calls Tryd.prog 9 #[v] w fun e w' => ∃ lv, e = .returned lv ∧ w'.ownsRow w.heap.size 57 5 lv ss.length (rowsOf (nodesOf ss)) ∧ Below w.heap.size w w' := by
  obtain ⟨a, cap, rfl, hr⟩ := hv
  obtain ⟨i0, hi, hz0, hz1, hz2⟩ := info_parts info57
  have HR := hide1 hr
  clear hr
  go_enter Tryd.func9, Tryd.ntmps9
  go_wp2
  go_loopw [3, 4] (fun lv i wr => ∃ k : Nat, k ≤ ss.length ∧ i = .int .i64 k ∧ wr.ownsRow w.heap.size 57 5 lv k (rowsOf (nodesOf (ss.take k))) ∧ Below w.heap.size w wr) (fun _ i _ => ss.length - (intOf i).toNat)
  case atStart => exact ⟨0, Nat.zero_le _, rfl, World.ownsRow_nil _ _ _ _, Below.refl _ _⟩
  case round =>
    obtain ⟨k, hk, rfl, hrow, hB⟩ := hrel
    by_cases hlt : k < ss.length
    · obtain ⟨g, o, hg, rfl, hc0, hc1, hc2, hc3, hc4⟩ := HR.out k ss[k] (List.getElem?_eq_getElem hlt)
      have hs : ss[k]? = some ss[k] := List.getElem?_eq_getElem hlt
      obtain ⟨s, hs'⟩ : ∃ s, s = ss[k] := ⟨_, rfl⟩
      rw [← hs'] at hc0 hc1 hc2 hc3 hc4 hs
      have hd0 := (hB.cell (p := ⟨g, o + k * 5, none⟩) hg).trans hc0
      have hd1 := (hB.cell (p := ⟨g, o + k * 5 + 1, none⟩) hg).trans hc1
      have hd2 := (hB.cell (p := ⟨g, o + k * 5 + 2, none⟩) hg).trans hc2
      have hd3 := (hB.cell (p := ⟨g, o + k * 5 + 3, none⟩) hg).trans hc3
      have hd4 := (hB.cell (p := ⟨g, o + k * 5 + 4, none⟩) hg).trans hc4
      obtain ⟨l, hll⟩ : ∃ l, l = nodesOf (ss.take k) := ⟨_, rfl⟩
      have hln : l.length = k := by rw [hll, nodesOf_length]; simp; omega
      rw [← hll] at hrow
      obtain ⟨la, lc, rfl⟩ := row_form hrow
      have HS := hide1 (And.intro hs (And.intro hll hln))
      have HW := hide1 hrow
      clear hs hs' hll hln hrow hc0 hc1 hc2 hc3 hc4
      have hgl : g < wr.heap.size := Nat.lt_of_lt_of_le hg hB.size
      go_wp2
      go_quiet ((go_at_call 27; exact Calls.quiet_of_same (at_calls _ _ _ (by omega) _ _)))
      obtain ⟨Wq, hWq⟩ : ∃ Wq, ((wr.alloc (.cells #[.int .i64 s.kind, .int .i64 s.code, .string s.wh, .int .i64 s.a, .int .i64 s.b] 55)).alloc (.cells #[.int .i64 0, .int .i64 0, .string ⟨#[]⟩, .int .i64 0, .int .i64 0] 57)).drewN nq = Wq := ⟨_, rfl⟩
      have hzq : Wq.heap.size = wr.heap.size + 2 := by rw [← hWq]; simp [World.drewN]
      have hBq : Below w.heap.size w Wq := by
        rw [← hWq]
        exact below_drewN ((hB.alloc hB.size _).alloc (by have := hB.size; simp; omega) _) _
      have hbS : Wq.heap[wr.heap.size]? = some (.cells #[.int .i64 s.kind, .int .i64 s.code, .string s.wh, .int .i64 s.a, .int .i64 s.b] 55 (0, 0)) := by
        rw [← hWq]
        exact (Below.heap_alloc _ _ _ (by simp)).trans (World.alloc_heap_new wr _)
      have hbN : Wq.heap[wr.heap.size + 1]? = some (.cells #[.int .i64 0, .int .i64 0, .string ⟨#[]⟩, .int .i64 0, .int .i64 0] 57 (0, 0)) := by
        rw [← hWq]
        have := World.alloc_heap_new (wr.alloc (.cells #[.int .i64 s.kind, .int .i64 s.code, .string s.wh, .int .i64 s.a, .int .i64 s.b] 55)) (.cells #[.int .i64 0, .int .i64 0, .string ⟨#[]⟩, .int .i64 0, .int .i64 0] 57)
        rw [World.size_alloc] at this
        exact this
      have hrq : Wq.ownsRow w.heap.size 57 5 (.slice la k lc) k (rowsOf l) := by
        rw [← hWq]
        exact row_drewN ((HW.out.alloc _).alloc _) _
      rw [hWq]
      obtain ⟨n, hn⟩ : ∃ n, n = wr.heap.size := ⟨_, rfl⟩
      rw [← hn] at hbS hbN hzq ⊢
      have HWr := HW
      have HBr := hide1 hB
      clear hWq hd0 hd1 hd2 hd3 hd4 HW hB hgl
      have HX := hide1 (And.intro hrq (And.intro hBq (And.intro hbN hzq)))
      obtain ⟨s0, s1, s2, s3, s4⟩ := five_cells hbS
      obtain ⟨n0, n1, n2, n3, n4⟩ := five_cells hbN
      have nf := not_frozen hbN
      have HBS := hide1 hbS
      clear hrq hBq hbS hbN
      have hln := hide1 HS.out.2.2
      have hrb := hide1 (show (Value.slice la k lc).ownBlock ≠ some (n + 1) from fun e => by have := (HWr.out.lt _ e).2; omega)
      have hwn : w.heap.size ≤ n + 1 := by have := HBr.out.size; omega
      clear hn HWr HBr hzq
      have HS1 := hide1 HS.out.1
      have HS2 := hide1 HS.out.2.1
      clear HS
      have hka : kindI l (atI k s.a) = kindI l s.a := by have h := kindI_at l s.a; rwa [hln.out] at h
      have hkb : kindI l (atI k s.b) = kindI l s.b := by have h := kindI_at l s.b; rwa [hln.out] at h
      by_cases p0 : s.kind = 0
      · clear hka hkb
        by_cases pc : s.code = 0
        · skip
          have q0 : (s.kind == 0) = true := by simp [p0]
          have q1 : (s.kind == 1) = false := by simp [p0]
          have q2 : (s.kind == 2) = false := by simp [p0]
          have q3 : (s.kind == 3) = false := by simp [p0]
          have qc : (s.code != 0) = false := by simp [pc]
          have HN := hide1 (show nodeOf l s = zRw from by simp [nodeOf, p0, pc])
          go_upto_region 20 with (go_at_call 28; refine (kind_calls' _ l (by have := hln.out; omega) _ _ (rowsAt' HX.out.1 hln.out)).mono ?_; rintro e w' ⟨rfl, rfl⟩)
          obtain ⟨hr5, hB5, hN5, hz5⟩ := HX.out
          clear n0 n1 n2 n3 n4 nf s0 s1 s2 s3 s4
          obtain ⟨m0, m1, m2, m3, m4⟩ := five_cells hN5
          have HR5 := hide1 (And.intro hr5 (And.intro hB5 hz5))
          clear hr5 hB5 hN5 hz5
          go_wp2_with (at_builtin; go_must (refine wpList_append_own _ rfl _ _ 27 rfl w.heap.size 57 i0 (.agg #[.int .i64 0, .int .i64 0, .string ⟨#[]⟩, .int .i64 0, .int .i64 0]) 5 48 Tryd.underlying27 hi hz0 hz1 hz2 rfl (by decide) _ _ _ rfl (HR5.out.1.alloc _) ⟨Wq.heap.size, 0, none⟩ 1 1 (rwCells zRw) rfl rfl (cells_new _ _ _) (by simp [rwCells, Value.oneCell']) (by unfold maxLen; omega) (by omega) (by have := HR5.out.2.1.size; simp; omega) ?_); intro v' w1 hown' hgrow _)
          go_roundw
          case rel =>
            refine ⟨k + 1, by omega, by go_num, ?_, (HR5.out.2.1.alloc HR5.out.2.1.size _).grown hgrow (by have := HR5.out.2.1.size; simp; omega) (fun b hb => (HR5.out.1.lt b hb).1)⟩
            rw [take_snoc' ss _ s HS1.out, nodesOf_snoc, ← HS2.out, HN.out, rowsOf_append]
            simpa [rowsOf] using hown'
          case measure => simp [intOf]; omega
        · skip
          have q0 : (s.kind == 0) = true := by simp [p0]
          have q1 : (s.kind == 1) = false := by simp [p0]
          have q2 : (s.kind == 2) = false := by simp [p0]
          have q3 : (s.kind == 3) = false := by simp [p0]
          have qc : (s.code != 0) = true := by simp [pc]
          have HN := hide1 (show nodeOf l s = ⟨1, s.code, s.wh, 0, 0⟩ from by simp [nodeOf, p0, pc])
          go_upto_region 20 with (go_at_call 28; refine (kind_calls' _ l (by have := hln.out; omega) _ _ (rowsAt' HX.out.1 hln.out)).mono ?_; rintro e w' ⟨rfl, rfl⟩)
          obtain ⟨W5, hW5⟩ : ∃ W5, ((((Wq.setCell ⟨n + 1, 0, none⟩ (.int .i64 1)).setCell ⟨n + 1, 1, none⟩ (.int .i64 s.code)).setCell ⟨n + 1, 2, none⟩ (.string s.wh)).setCell ⟨n + 1, 3, none⟩ (.int .i64 0)).setCell ⟨n + 1, 4, none⟩ (.int .i64 0) = W5 := ⟨_, rfl⟩
          obtain ⟨hr5, hB5, hN5, hz5⟩ := set5_all HX.out.1 hrb.out HX.out.2.1 hwn HX.out.2.2.1 HX.out.2.2.2 _ _ _ _ _ hW5
          rw [hW5]
          clear hW5
          clear n0 n1 n2 n3 n4 nf s0 s1 s2 s3 s4
          obtain ⟨m0, m1, m2, m3, m4⟩ := five_cells hN5
          have HR5 := hide1 (And.intro hr5 (And.intro hB5 hz5))
          clear hr5 hB5 hN5 hz5
          go_wp2_with (at_builtin; go_must (refine wpList_append_own _ rfl _ _ 27 rfl w.heap.size 57 i0 (.agg #[.int .i64 0, .int .i64 0, .string ⟨#[]⟩, .int .i64 0, .int .i64 0]) 5 48 Tryd.underlying27 hi hz0 hz1 hz2 rfl (by decide) _ _ _ rfl (HR5.out.1.alloc _) ⟨W5.heap.size, 0, none⟩ 1 1 (rwCells ⟨1, s.code, s.wh, 0, 0⟩) rfl rfl (cells_new _ _ _) (by simp [rwCells, Value.oneCell']) (by unfold maxLen; omega) (by omega) (by have := HR5.out.2.1.size; simp; omega) ?_); intro v' w1 hown' hgrow _)
          go_roundw
          case rel =>
            refine ⟨k + 1, by omega, by go_num, ?_, (HR5.out.2.1.alloc HR5.out.2.1.size _).grown hgrow (by have := HR5.out.2.1.size; simp; omega) (fun b hb => (HR5.out.1.lt b hb).1)⟩
            rw [take_snoc' ss _ s HS1.out, nodesOf_snoc, ← HS2.out, HN.out, rowsOf_append]
            simpa [rowsOf] using hown'
          case measure => simp [intOf]; omega
      · by_cases p1 : s.kind = 1
        · clear hka hkb
          by_cases pc : s.code = 0
          · skip
            have q0 : (s.kind == 0) = false := by simp [p1]
            have q1 : (s.kind == 1) = true := by simp [p1]
            have q2 : (s.kind == 2) = false := by simp [p1]
            have q3 : (s.kind == 3) = false := by simp [p1]
            have qc : (s.code != 0) = false := by simp [pc]
            have HN := hide1 (show nodeOf l s = zRw from by simp [nodeOf, p1, pc])
            go_upto_region 20 with (go_at_call 28; refine (kind_calls' _ l (by have := hln.out; omega) _ _ (rowsAt' HX.out.1 hln.out)).mono ?_; rintro e w' ⟨rfl, rfl⟩)
            obtain ⟨hr5, hB5, hN5, hz5⟩ := HX.out
            clear n0 n1 n2 n3 n4 nf s0 s1 s2 s3 s4
            obtain ⟨m0, m1, m2, m3, m4⟩ := five_cells hN5
            have HR5 := hide1 (And.intro hr5 (And.intro hB5 hz5))
            clear hr5 hB5 hN5 hz5
            go_wp2_with (at_builtin; go_must (refine wpList_append_own _ rfl _ _ 27 rfl w.heap.size 57 i0 (.agg #[.int .i64 0, .int .i64 0, .string ⟨#[]⟩, .int .i64 0, .int .i64 0]) 5 48 Tryd.underlying27 hi hz0 hz1 hz2 rfl (by decide) _ _ _ rfl (HR5.out.1.alloc _) ⟨Wq.heap.size, 0, none⟩ 1 1 (rwCells zRw) rfl rfl (cells_new _ _ _) (by simp [rwCells, Value.oneCell']) (by unfold maxLen; omega) (by omega) (by have := HR5.out.2.1.size; simp; omega) ?_); intro v' w1 hown' hgrow _)
            go_roundw
            case rel =>
              refine ⟨k + 1, by omega, by go_num, ?_, (HR5.out.2.1.alloc HR5.out.2.1.size _).grown hgrow (by have := HR5.out.2.1.size; simp; omega) (fun b hb => (HR5.out.1.lt b hb).1)⟩
              rw [take_snoc' ss _ s HS1.out, nodesOf_snoc, ← HS2.out, HN.out, rowsOf_append]
              simpa [rowsOf] using hown'
            case measure => simp [intOf]; omega
          · skip
            have q0 : (s.kind == 0) = false := by simp [p1]
            have q1 : (s.kind == 1) = true := by simp [p1]
            have q2 : (s.kind == 2) = false := by simp [p1]
            have q3 : (s.kind == 3) = false := by simp [p1]
            have qc : (s.code != 0) = true := by simp [pc]
            have HN := hide1 (show nodeOf l s = ⟨2, s.code, ⟨#[]⟩, 0, 0⟩ from by simp [nodeOf, p1, pc])
            go_upto_region 20 with (go_at_call 28; refine (kind_calls' _ l (by have := hln.out; omega) _ _ (rowsAt' HX.out.1 hln.out)).mono ?_; rintro e w' ⟨rfl, rfl⟩)
            obtain ⟨W5, hW5⟩ : ∃ W5, ((((Wq.setCell ⟨n + 1, 0, none⟩ (.int .i64 2)).setCell ⟨n + 1, 1, none⟩ (.int .i64 s.code)).setCell ⟨n + 1, 2, none⟩ (.string ⟨#[]⟩)).setCell ⟨n + 1, 3, none⟩ (.int .i64 0)).setCell ⟨n + 1, 4, none⟩ (.int .i64 0) = W5 := ⟨_, rfl⟩
            obtain ⟨hr5, hB5, hN5, hz5⟩ := set5_all HX.out.1 hrb.out HX.out.2.1 hwn HX.out.2.2.1 HX.out.2.2.2 _ _ _ _ _ hW5
            rw [hW5]
            clear hW5
            clear n0 n1 n2 n3 n4 nf s0 s1 s2 s3 s4
            obtain ⟨m0, m1, m2, m3, m4⟩ := five_cells hN5
            have HR5 := hide1 (And.intro hr5 (And.intro hB5 hz5))
            clear hr5 hB5 hN5 hz5
            go_wp2_with (at_builtin; go_must (refine wpList_append_own _ rfl _ _ 27 rfl w.heap.size 57 i0 (.agg #[.int .i64 0, .int .i64 0, .string ⟨#[]⟩, .int .i64 0, .int .i64 0]) 5 48 Tryd.underlying27 hi hz0 hz1 hz2 rfl (by decide) _ _ _ rfl (HR5.out.1.alloc _) ⟨W5.heap.size, 0, none⟩ 1 1 (rwCells ⟨2, s.code, ⟨#[]⟩, 0, 0⟩) rfl rfl (cells_new _ _ _) (by simp [rwCells, Value.oneCell']) (by unfold maxLen; omega) (by omega) (by have := HR5.out.2.1.size; simp; omega) ?_); intro v' w1 hown' hgrow _)
            go_roundw
            case rel =>
              refine ⟨k + 1, by omega, by go_num, ?_, (HR5.out.2.1.alloc HR5.out.2.1.size _).grown hgrow (by have := HR5.out.2.1.size; simp; omega) (fun b hb => (HR5.out.1.lt b hb).1)⟩
              rw [take_snoc' ss _ s HS1.out, nodesOf_snoc, ← HS2.out, HN.out, rowsOf_append]
              simpa [rowsOf] using hown'
            case measure => simp [intOf]; omega
        · by_cases p2 : s.kind = 2
          · by_cases pa : kindI l s.a = 0
            · skip
              have q0 : (s.kind == 0) = false := by simp [p2]
              have q1 : (s.kind == 1) = false := by simp [p2]
              have q2 : (s.kind == 2) = true := by simp [p2]
              have q3 : (s.kind == 3) = false := by simp [p2]
              have qa : (kindI l s.a != 0) = false := by simp [pa]
              have HN := hide1 (show nodeOf l s = zRw from by simp [nodeOf, p2, pa])
              go_upto_region 20 with (go_at_call 28; refine (kind_calls' _ l (by have := hln.out; omega) _ _ (rowsAt' HX.out.1 hln.out)).mono ?_; rintro e w' ⟨rfl, rfl⟩)
              obtain ⟨hr5, hB5, hN5, hz5⟩ := HX.out
              clear n0 n1 n2 n3 n4 nf s0 s1 s2 s3 s4
              obtain ⟨m0, m1, m2, m3, m4⟩ := five_cells hN5
              have HR5 := hide1 (And.intro hr5 (And.intro hB5 hz5))
              clear hr5 hB5 hN5 hz5
              go_wp2_with (at_builtin; go_must (refine wpList_append_own _ rfl _ _ 27 rfl w.heap.size 57 i0 (.agg #[.int .i64 0, .int .i64 0, .string ⟨#[]⟩, .int .i64 0, .int .i64 0]) 5 48 Tryd.underlying27 hi hz0 hz1 hz2 rfl (by decide) _ _ _ rfl (HR5.out.1.alloc _) ⟨Wq.heap.size, 0, none⟩ 1 1 (rwCells zRw) rfl rfl (cells_new _ _ _) (by simp [rwCells, Value.oneCell']) (by unfold maxLen; omega) (by omega) (by have := HR5.out.2.1.size; simp; omega) ?_); intro v' w1 hown' hgrow _)
              go_roundw
              case rel =>
                refine ⟨k + 1, by omega, by go_num, ?_, (HR5.out.2.1.alloc HR5.out.2.1.size _).grown hgrow (by have := HR5.out.2.1.size; simp; omega) (fun b hb => (HR5.out.1.lt b hb).1)⟩
                rw [take_snoc' ss _ s HS1.out, nodesOf_snoc, ← HS2.out, HN.out, rowsOf_append]
                simpa [rowsOf] using hown'
              case measure => simp [intOf]; omega
            · skip
              have q0 : (s.kind == 0) = false := by simp [p2]
              have q1 : (s.kind == 1) = false := by simp [p2]
              have q2 : (s.kind == 2) = true := by simp [p2]
              have q3 : (s.kind == 3) = false := by simp [p2]
              have qa : (kindI l s.a != 0) = true := by simp [pa]
              have HN := hide1 (show nodeOf l s = ⟨3, 0, s.wh, atI k s.a, 0⟩ from by rw [← hln.out]; simp [nodeOf, p2, pa])
              go_upto_region 20 with (go_at_call 28; refine (kind_calls' _ l (by have := hln.out; omega) _ _ (rowsAt' HX.out.1 hln.out)).mono ?_; rintro e w' ⟨rfl, rfl⟩)
              obtain ⟨W5, hW5⟩ : ∃ W5, ((((Wq.setCell ⟨n + 1, 0, none⟩ (.int .i64 3)).setCell ⟨n + 1, 1, none⟩ (.int .i64 0)).setCell ⟨n + 1, 2, none⟩ (.string s.wh)).setCell ⟨n + 1, 3, none⟩ (.int .i64 (atI k s.a))).setCell ⟨n + 1, 4, none⟩ (.int .i64 0) = W5 := ⟨_, rfl⟩
              obtain ⟨hr5, hB5, hN5, hz5⟩ := set5_all HX.out.1 hrb.out HX.out.2.1 hwn HX.out.2.2.1 HX.out.2.2.2 _ _ _ _ _ hW5
              rw [hW5]
              clear hW5
              clear n0 n1 n2 n3 n4 nf s0 s1 s2 s3 s4
              obtain ⟨m0, m1, m2, m3, m4⟩ := five_cells hN5
              have HR5 := hide1 (And.intro hr5 (And.intro hB5 hz5))
              clear hr5 hB5 hN5 hz5
              go_wp2_with (at_builtin; go_must (refine wpList_append_own _ rfl _ _ 27 rfl w.heap.size 57 i0 (.agg #[.int .i64 0, .int .i64 0, .string ⟨#[]⟩, .int .i64 0, .int .i64 0]) 5 48 Tryd.underlying27 hi hz0 hz1 hz2 rfl (by decide) _ _ _ rfl (HR5.out.1.alloc _) ⟨W5.heap.size, 0, none⟩ 1 1 (rwCells ⟨3, 0, s.wh, atI k s.a, 0⟩) rfl rfl (cells_new _ _ _) (by simp [rwCells, Value.oneCell']) (by unfold maxLen; omega) (by omega) (by have := HR5.out.2.1.size; simp; omega) ?_); intro v' w1 hown' hgrow _)
              go_roundw
              case rel =>
                refine ⟨k + 1, by omega, by go_num, ?_, (HR5.out.2.1.alloc HR5.out.2.1.size _).grown hgrow (by have := HR5.out.2.1.size; simp; omega) (fun b hb => (HR5.out.1.lt b hb).1)⟩
                rw [take_snoc' ss _ s HS1.out, nodesOf_snoc, ← HS2.out, HN.out, rowsOf_append]
                simpa [rowsOf] using hown'
              case measure => simp [intOf]; omega
          · by_cases p3 : s.kind = 3
            · by_cases pa : kindI l s.a = 0
              · by_cases pb : kindI l s.b = 0
                · skip
                  have q0 : (s.kind == 0) = false := by simp [p3]
                  have q1 : (s.kind == 1) = false := by simp [p3]
                  have q2 : (s.kind == 2) = false := by simp [p3]
                  have q3 : (s.kind == 3) = true := by simp [p3]
                  have qa : (kindI l s.a != 0) = false := by simp [pa]
                  have qa2 : (kindI l s.a == 0) = true := by simp [pa]
                  have qb : (kindI l s.b != 0) = false := by simp [pb]
                  have qb2 : (kindI l s.b == 0) = true := by simp [pb]
                  have HN := hide1 (show nodeOf l s = zRw from by simp [nodeOf, p3, pa, pb])
                  go_upto_region 20 with (go_at_call 28; refine (kind_calls' _ l (by have := hln.out; omega) _ _ (rowsAt' HX.out.1 hln.out)).mono ?_; rintro e w' ⟨rfl, rfl⟩)
                  obtain ⟨hr5, hB5, hN5, hz5⟩ := HX.out
                  clear n0 n1 n2 n3 n4 nf s0 s1 s2 s3 s4
                  obtain ⟨m0, m1, m2, m3, m4⟩ := five_cells hN5
                  have HR5 := hide1 (And.intro hr5 (And.intro hB5 hz5))
                  clear hr5 hB5 hN5 hz5
                  go_wp2_with (at_builtin; go_must (refine wpList_append_own _ rfl _ _ 27 rfl w.heap.size 57 i0 (.agg #[.int .i64 0, .int .i64 0, .string ⟨#[]⟩, .int .i64 0, .int .i64 0]) 5 48 Tryd.underlying27 hi hz0 hz1 hz2 rfl (by decide) _ _ _ rfl (HR5.out.1.alloc _) ⟨Wq.heap.size, 0, none⟩ 1 1 (rwCells zRw) rfl rfl (cells_new _ _ _) (by simp [rwCells, Value.oneCell']) (by unfold maxLen; omega) (by omega) (by have := HR5.out.2.1.size; simp; omega) ?_); intro v' w1 hown' hgrow _)
                  go_roundw
                  case rel =>
                    refine ⟨k + 1, by omega, by go_num, ?_, (HR5.out.2.1.alloc HR5.out.2.1.size _).grown hgrow (by have := HR5.out.2.1.size; simp; omega) (fun b hb => (HR5.out.1.lt b hb).1)⟩
                    rw [take_snoc' ss _ s HS1.out, nodesOf_snoc, ← HS2.out, HN.out, rowsOf_append]
                    simpa [rowsOf] using hown'
                  case measure => simp [intOf]; omega
                · skip
                  have q0 : (s.kind == 0) = false := by simp [p3]
                  have q1 : (s.kind == 1) = false := by simp [p3]
                  have q2 : (s.kind == 2) = false := by simp [p3]
                  have q3 : (s.kind == 3) = true := by simp [p3]
                  have qa : (kindI l s.a != 0) = false := by simp [pa]
                  have qa2 : (kindI l s.a == 0) = true := by simp [pa]
                  have qb : (kindI l s.b != 0) = true := by simp [pb]
                  have qb2 : (kindI l s.b == 0) = false := by simp [pb]
                  obtain ⟨nx, r, hx, hxl, hxr, hxk⟩ := look_some pb
                  have hat : atI k s.b = (nx : Int) := by have := hln.out; unfold atI; rw [if_neg (by omega)]; exact hx
                  have hk2 : kindI l (nx : Int) = kindI l s.b := by rw [hx]
                  have hnk : nx < k := by have := hln.out; omega
                  obtain ⟨la', lc', hlv, hcs⟩ := rowsAt' HX.out.1 hln.out
                  obtain ⟨gx, ox, hgx, e0, e1, e2, e3, e4⟩ := hcs nx r hxr
                  cases hlv
                  clear hln
                  subst hgx
                  have HL := hide1 (show nodeOf l s = r by simp [nodeOf, p3, pa, pb, hxk])
                  clear hx hxr hxk hxl hcs
                  have HN := hide1 (show nodeOf l s = r from HL.out)
                  go_upto_region 20 with (go_at_call 28; refine (kind_calls' _ l (by omega) _ _ (rowsAt_own HX.out.1)).mono ?_; rintro e w' ⟨rfl, rfl⟩)
                  obtain ⟨W5, hW5⟩ : ∃ W5, ((((Wq.setCell ⟨n + 1, 0, none⟩ (.int .i64 r.kind)).setCell ⟨n + 1, 1, none⟩ (.int .i64 r.code)).setCell ⟨n + 1, 2, none⟩ (.string r.wh)).setCell ⟨n + 1, 3, none⟩ (.int .i64 r.a)).setCell ⟨n + 1, 4, none⟩ (.int .i64 r.b) = W5 := ⟨_, rfl⟩
                  obtain ⟨hr5, hB5, hN5, hz5⟩ := set5_all HX.out.1 hrb.out HX.out.2.1 hwn HX.out.2.2.1 HX.out.2.2.2 _ _ _ _ _ hW5
                  rw [hW5]
                  clear hW5
                  clear n0 n1 n2 n3 n4 nf s0 s1 s2 s3 s4
                  obtain ⟨m0, m1, m2, m3, m4⟩ := five_cells hN5
                  have HR5 := hide1 (And.intro hr5 (And.intro hB5 hz5))
                  clear hr5 hB5 hN5 hz5
                  go_wp2_with (at_builtin; go_must (refine wpList_append_own _ rfl _ _ 27 rfl w.heap.size 57 i0 (.agg #[.int .i64 0, .int .i64 0, .string ⟨#[]⟩, .int .i64 0, .int .i64 0]) 5 48 Tryd.underlying27 hi hz0 hz1 hz2 rfl (by decide) _ _ _ rfl (HR5.out.1.alloc _) ⟨W5.heap.size, 0, none⟩ 1 1 (rwCells r) rfl rfl (cells_new _ _ _) (by simp [rwCells, Value.oneCell']) (by unfold maxLen; omega) (by omega) (by have := HR5.out.2.1.size; simp; omega) ?_); intro v' w1 hown' hgrow _)
                  go_roundw
                  case rel =>
                    refine ⟨l.length + 1, by omega, by go_num, ?_, (HR5.out.2.1.alloc HR5.out.2.1.size _).grown hgrow (by have := HR5.out.2.1.size; simp; omega) (fun b hb => (HR5.out.1.lt b hb).1)⟩
                    rw [take_snoc' ss _ s HS1.out, nodesOf_snoc, ← HS2.out, HN.out, rowsOf_append]
                    simpa [rowsOf] using hown'
                  case measure => simp [intOf]; omega
              · by_cases pb : kindI l s.b = 0
                · skip
                  have q0 : (s.kind == 0) = false := by simp [p3]
                  have q1 : (s.kind == 1) = false := by simp [p3]
                  have q2 : (s.kind == 2) = false := by simp [p3]
                  have q3 : (s.kind == 3) = true := by simp [p3]
                  have qa : (kindI l s.a != 0) = true := by simp [pa]
                  have qa2 : (kindI l s.a == 0) = false := by simp [pa]
                  have qb : (kindI l s.b != 0) = false := by simp [pb]
                  have qb2 : (kindI l s.b == 0) = true := by simp [pb]
                  obtain ⟨nx, r, hx, hxl, hxr, hxk⟩ := look_some pa
                  have hat : atI k s.a = (nx : Int) := by have := hln.out; unfold atI; rw [if_neg (by omega)]; exact hx
                  have hk2 : kindI l (nx : Int) = kindI l s.a := by rw [hx]
                  have hnk : nx < k := by have := hln.out; omega
                  obtain ⟨la', lc', hlv, hcs⟩ := rowsAt' HX.out.1 hln.out
                  obtain ⟨gx, ox, hgx, e0, e1, e2, e3, e4⟩ := hcs nx r hxr
                  cases hlv
                  clear hln
                  subst hgx
                  have HL := hide1 (show nodeOf l s = r by simp [nodeOf, p3, pa, pb, hxk])
                  clear hx hxr hxk hxl hcs
                  have HN := hide1 (show nodeOf l s = r from HL.out)
                  go_upto_region 18 with (go_at_call 28; refine (kind_calls' _ l (by omega) _ _ (rowsAt_own HX.out.1)).mono ?_; rintro e w' ⟨rfl, rfl⟩)
                  obtain ⟨W5, hW5⟩ : ∃ W5, ((((Wq.setCell ⟨n + 1, 0, none⟩ (.int .i64 r.kind)).setCell ⟨n + 1, 1, none⟩ (.int .i64 r.code)).setCell ⟨n + 1, 2, none⟩ (.string r.wh)).setCell ⟨n + 1, 3, none⟩ (.int .i64 r.a)).setCell ⟨n + 1, 4, none⟩ (.int .i64 r.b) = W5 := ⟨_, rfl⟩
                  obtain ⟨hr5, hB5, hN5, hz5⟩ := set5_all HX.out.1 hrb.out HX.out.2.1 hwn HX.out.2.2.1 HX.out.2.2.2 _ _ _ _ _ hW5
                  have hS5 := (set5_other hW5 n (by omega)).trans HBS.out
                  rw [hW5]
                  clear hW5
                  clear n0 n1 n2 n3 n4 nf s0 s1 s2 s3 s4
                  obtain ⟨m0, m1, m2, m3, m4⟩ := five_cells hN5
                  have HR5 := hide1 (And.intro hr5 (And.intro hB5 hz5))
                  clear hr5 hB5 hN5 hz5
                  obtain ⟨s0, s1, s2, s3, s4⟩ := five_cells hS5
                  clear hS5
                  go_upto_region 20 with (go_at_call 28; refine (kind_calls' _ l (by omega) _ _ (rowsAt_own HR5.out.1)).mono ?_; rintro e w' ⟨rfl, rfl⟩)
                  go_wp2_with (at_builtin; go_must (refine wpList_append_own _ rfl _ _ 27 rfl w.heap.size 57 i0 (.agg #[.int .i64 0, .int .i64 0, .string ⟨#[]⟩, .int .i64 0, .int .i64 0]) 5 48 Tryd.underlying27 hi hz0 hz1 hz2 rfl (by decide) _ _ _ rfl (HR5.out.1.alloc _) ⟨W5.heap.size, 0, none⟩ 1 1 (rwCells r) rfl rfl (cells_new _ _ _) (by simp [rwCells, Value.oneCell']) (by unfold maxLen; omega) (by omega) (by have := HR5.out.2.1.size; simp; omega) ?_); intro v' w1 hown' hgrow _)
                  go_roundw
                  case rel =>
                    refine ⟨l.length + 1, by omega, by go_num, ?_, (HR5.out.2.1.alloc HR5.out.2.1.size _).grown hgrow (by have := HR5.out.2.1.size; simp; omega) (fun b hb => (HR5.out.1.lt b hb).1)⟩
                    rw [take_snoc' ss _ s HS1.out, nodesOf_snoc, ← HS2.out, HN.out, rowsOf_append]
                    simpa [rowsOf] using hown'
                  case measure => simp [intOf]; omega
                · skip
                  have q0 : (s.kind == 0) = false := by simp [p3]
                  have q1 : (s.kind == 1) = false := by simp [p3]
                  have q2 : (s.kind == 2) = false := by simp [p3]
                  have q3 : (s.kind == 3) = true := by simp [p3]
                  have qa : (kindI l s.a != 0) = true := by simp [pa]
                  have qa2 : (kindI l s.a == 0) = false := by simp [pa]
                  have qb : (kindI l s.b != 0) = true := by simp [pb]
                  have qb2 : (kindI l s.b == 0) = false := by simp [pb]
                  have HN := hide1 (show nodeOf l s = ⟨4, 0, ⟨#[]⟩, atI k s.a, atI k s.b⟩ from by rw [← hln.out]; simp [nodeOf, p3, pa, pb])
                  go_upto_region 16 with (go_at_call 28; refine (kind_calls' _ l (by have := hln.out; omega) _ _ (rowsAt' HX.out.1 hln.out)).mono ?_; rintro e w' ⟨rfl, rfl⟩)
                  obtain ⟨W5, hW5⟩ : ∃ W5, ((((Wq.setCell ⟨n + 1, 0, none⟩ (.int .i64 4)).setCell ⟨n + 1, 1, none⟩ (.int .i64 0)).setCell ⟨n + 1, 2, none⟩ (.string ⟨#[]⟩)).setCell ⟨n + 1, 3, none⟩ (.int .i64 (atI k s.a))).setCell ⟨n + 1, 4, none⟩ (.int .i64 (atI k s.b)) = W5 := ⟨_, rfl⟩
                  obtain ⟨hr5, hB5, hN5, hz5⟩ := set5_all HX.out.1 hrb.out HX.out.2.1 hwn HX.out.2.2.1 HX.out.2.2.2 _ _ _ _ _ hW5
                  have hS5 := (set5_other hW5 n (by omega)).trans HBS.out
                  rw [hW5]
                  clear hW5
                  clear n0 n1 n2 n3 n4 nf s0 s1 s2 s3 s4
                  obtain ⟨m0, m1, m2, m3, m4⟩ := five_cells hN5
                  have HR5 := hide1 (And.intro hr5 (And.intro hB5 hz5))
                  clear hr5 hB5 hN5 hz5
                  obtain ⟨s0, s1, s2, s3, s4⟩ := five_cells hS5
                  clear hS5
                  go_upto_region 20 with (go_at_call 28; refine (kind_calls' _ l (by have := hln.out; omega) _ _ (rowsAt' HR5.out.1 hln.out)).mono ?_; rintro e w' ⟨rfl, rfl⟩)
                  go_wp2_with (at_builtin; go_must (refine wpList_append_own _ rfl _ _ 27 rfl w.heap.size 57 i0 (.agg #[.int .i64 0, .int .i64 0, .string ⟨#[]⟩, .int .i64 0, .int .i64 0]) 5 48 Tryd.underlying27 hi hz0 hz1 hz2 rfl (by decide) _ _ _ rfl (HR5.out.1.alloc _) ⟨W5.heap.size, 0, none⟩ 1 1 (rwCells ⟨4, 0, ⟨#[]⟩, atI k s.a, atI k s.b⟩) rfl rfl (cells_new _ _ _) (by simp [rwCells, Value.oneCell']) (by unfold maxLen; omega) (by omega) (by have := HR5.out.2.1.size; simp; omega) ?_); intro v' w1 hown' hgrow _)
                  go_roundw
                  case rel =>
                    refine ⟨k + 1, by omega, by go_num, ?_, (HR5.out.2.1.alloc HR5.out.2.1.size _).grown hgrow (by have := HR5.out.2.1.size; simp; omega) (fun b hb => (HR5.out.1.lt b hb).1)⟩
                    rw [take_snoc' ss _ s HS1.out, nodesOf_snoc, ← HS2.out, HN.out, rowsOf_append]
                    simpa [rowsOf] using hown'
                  case measure => simp [intOf]; omega
            · clear hka hkb
              have q0 : (s.kind == 0) = false := by simp [p0]
              have q1 : (s.kind == 1) = false := by simp [p1]
              have q2 : (s.kind == 2) = false := by simp [p2]
              have q3 : (s.kind == 3) = false := by simp [p3]
              have HN := hide1 (show nodeOf l s = zRw from by simp [nodeOf, p0, p1, p2, p3])
              go_upto_region 20 with (go_at_call 28; refine (kind_calls' _ l (by have := hln.out; omega) _ _ (rowsAt' HX.out.1 hln.out)).mono ?_; rintro e w' ⟨rfl, rfl⟩)
              obtain ⟨hr5, hB5, hN5, hz5⟩ := HX.out
              clear n0 n1 n2 n3 n4 nf s0 s1 s2 s3 s4
              obtain ⟨m0, m1, m2, m3, m4⟩ := five_cells hN5
              have HR5 := hide1 (And.intro hr5 (And.intro hB5 hz5))
              clear hr5 hB5 hN5 hz5
              go_wp2_with (at_builtin; go_must (refine wpList_append_own _ rfl _ _ 27 rfl w.heap.size 57 i0 (.agg #[.int .i64 0, .int .i64 0, .string ⟨#[]⟩, .int .i64 0, .int .i64 0]) 5 48 Tryd.underlying27 hi hz0 hz1 hz2 rfl (by decide) _ _ _ rfl (HR5.out.1.alloc _) ⟨Wq.heap.size, 0, none⟩ 1 1 (rwCells zRw) rfl rfl (cells_new _ _ _) (by simp [rwCells, Value.oneCell']) (by unfold maxLen; omega) (by omega) (by have := HR5.out.2.1.size; simp; omega) ?_); intro v' w1 hown' hgrow _)
              go_roundw
              case rel =>
                refine ⟨k + 1, by omega, by go_num, ?_, (HR5.out.2.1.alloc HR5.out.2.1.size _).grown hgrow (by have := HR5.out.2.1.size; simp; omega) (fun b hb => (HR5.out.1.lt b hb).1)⟩
                rw [take_snoc' ss _ s HS1.out, nodesOf_snoc, ← HS2.out, HN.out, rowsOf_append]
                simpa [rowsOf] using hown'
              case measure => simp [intOf]; omega
    · have : k = ss.length := by omega
      subst this
      go_wp2
      go_ret
      rw [List.take_length] at hrow
      exact ⟨_, rfl, hrow, hB⟩

end Go.Proofs.YtogninhgibbfnaaDoor
