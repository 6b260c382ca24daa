/- The program's Left and All. -/
import Derived.Test.YtceemkjmmfkmdaaJ10
namespace Go.Proofs.Ytceemkjmmfkmdaa.St
open Go.RowKit
set_option maxRecDepth 100000
attribute [local go_sem] not_any

theorem cntN_snoc : ∀ (st : Sts) (o : Option (List Nat)), cntN (st ++ [o]) = cntN st + (if o.isSome then 0 else 1)
  | [], o => by rw [List.nil_append, cntN, cntN, cntN]; omega
  | p :: st, o => by rw [List.cons_append, cntN, cntN, cntN_snoc st o]; omega
theorem take_snoc' {st : Sts} {k : Nat} {o : Option (List Nat)} (h : st[k]? = some o) : st.take (k + 1) = st.take k ++ [o] := by rw [List.take_add_one, h]; rfl

set_option maxHeartbeats 4000000 in
theorem left_any (w : World) (g gp : Nat) (ps : Array Value) (F : Nat → Prop) (l : List Chk) (e : Nat) (st : Sts) (h : Jm w g gp ps F l e st) :
    Calls Try.prog 18 #[.pointer (some ⟨g, 0, none⟩)] w fun r w' => r = .returned (.int .i64 (cntN st : Nat)) ∧ Below w.heap.size w w' := by
  have kN := hide1 (none_made w g _ h.hg)
  obtain ⟨n, hn⟩ : ∃ n, n = l.length := ⟨_, rfl⟩
  have hl := h.len
  have hlim := h.lim
  have hg := h.hg
  rw [← hn] at hl hlim hg
  have g1 : w.cell? ⟨g, 1, none⟩ = some (.slice (some ⟨gp, 0, none⟩) n n) := by rw [cell_of_row w g 1 _ _ _ hg]; rfl
  have H := hide1 h
  have HNL := hide1 hn
  clear h hn hg
  go_enter Try.func18, Try.ntmps18
  go_wp2_with fail
  go_at_call 24
  refine kN.out.mono ?_
  rintro r w1 ⟨rfl, he⟩
  obtain rfl := he.symm
  clear kN he
  go_wp2
  go_loopw [3, 13] (fun v3 v13 wr => ∃ k : Nat, k ≤ n ∧ v13 = .int .i64 k ∧ v3 = .int .i64 (cntN (st.take k) : Nat) ∧ Below w.heap.size w wr) (fun _ v13 _ => n - (intOf v13).toNat)
  case atStart => exact ⟨0, Nat.zero_le _, rfl, rfl, Below.refl _ _⟩
  case round =>
    obtain ⟨k, hk, rfl, rfl, hbe⟩ := hrel
    by_cases hlt : k < n
    · have bk : (k : Int) < (n : Int) := by omega
      have bk2 : (k : Int) < 20 := by omega
      obtain ⟨o, ho⟩ : ∃ o, st[k]? = some o := ⟨_, List.getElem?_eq_getElem (by omega)⟩
      obtain ⟨x, hx⟩ : ∃ x, l[k]? = some x := ⟨_, List.getElem?_eq_getElem (by rw [← HNL.out]; exact hlt)⟩
      obtain ⟨r0, r1, a, m, d, r2, _⟩ := H.out.row k x o hx ho
      have p0 := (hbe.block gp (H.out.lt _ H.out.fp)).trans H.out.hp
      have c0 : wr.cell? ⟨gp, k * 3, none⟩ = some (.int .i64 ((e : Int) * x.ct)) := by rw [cell_of_row wr gp _ _ _ _ p0]; exact r0
      have c1 : wr.cell? ⟨gp, k * 3 + 1, none⟩ = some (.bool o.isSome) := by rw [cell_of_row wr gp _ _ _ _ p0]; exact r1
      have c2 : wr.cell? ⟨gp, k * 3 + 2, none⟩ = some (.slice a m d) := by rw [cell_of_row wr gp _ _ _ _ p0]; exact r2
      obtain ⟨z, hz⟩ : ∃ z, z = (e : Int) * x.ct := ⟨_, rfl⟩
      rw [← hz] at c0
      have hsn := cntN_snoc (st.take k) o
      rw [← take_snoc' ho] at hsn
      have hcl := cntN_le (st.take k)
      have hcl2 : (st.take k).length ≤ 20 := by rw [List.length_take]; omega
      obtain ⟨C, hC⟩ : ∃ C, C = cntN (st.take k) := ⟨_, rfl⟩
      rw [← hC] at hsn hcl ⊢
      have e1 : IntKind.i64.wrap ((C : Int) + 1) = ((C + 1 : Nat) : Int) := by rw [IntKind.wrap_i64]; omega
      obtain ⟨D, hD⟩ : ∃ D, D = C + 1 := ⟨_, rfl⟩
      rw [← hD] at e1
      have HSN := hide1 hsn
      have HD := hide1 hD
      have HE := hide1 hbe
      clear ho hx r0 r1 r2 p0 hz hsn hcl hcl2 hC hD hbe
      cases o with
      | none =>
        go_wp2
        go_roundw
        case rel => exact ⟨k + 1, by omega, by go_num, by rw [HSN.out, HD.out]; rfl, HE.out.alloc HE.out.size _⟩
        case measure => simp [intOf]; omega
      | some xs =>
        go_wp2
        go_roundw
        case rel => exact ⟨k + 1, by omega, by go_num, by rw [HSN.out]; rfl, HE.out.alloc HE.out.size _⟩
        case measure => simp [intOf]; omega
    · obtain rfl : k = n := by omega
      have nk : ¬ (k : Int) < (k : Int) := by omega
      have HE := hide1 hbe
      rw [List.take_of_length_le (by omega)]
      clear hbe
      go_wp2
      go_ret
      exact ⟨rfl, HE.out⟩

set_option maxHeartbeats 4000000 in
theorem all_good (w : World) (g gp : Nat) (ps : Array Value) (F : Nat → Prop) (l : List Chk) (e : Nat) (st : Sts) (h : Jm w g gp ps F l e st) (h0 : cntN st = 0) :
    Calls Try.prog 19 #[.pointer (some ⟨g, 0, none⟩)] w fun r w' => ∃ a m c, r = .returned (.tuple #[.slice a m c, .bool true]) ∧ Nl w' m a (joinL st) ∧ Below w.heap.size w w' := by
  have kN := hide1 (none_made w g _ h.hg)
  have kL := hide1 (left_any w g gp ps F l e st h)
  rw [h0] at kL
  have H := hide1 h
  have H0 := hide1 h0
  clear h h0
  go_enter Try.func19, Try.ntmps19
  go_wp2_with fail
  go_at_call 24
  refine kN.out.mono ?_
  rintro r w1 ⟨rfl, he⟩
  obtain rfl := he.symm
  clear kN he
  go_wp2_with fail
  go_at_call 18
  refine kL.out.mono ?_
  rintro r w1 ⟨rfl, hb1⟩
  obtain ⟨n, hn⟩ : ∃ n, n = l.length := ⟨_, rfl⟩
  have J1 := H.out.below hb1
  have hl := J1.len
  have hlim := J1.lim
  have hg := J1.hg
  rw [← hn] at hl hlim hg
  have g1 : w1.cell? ⟨g, 1, none⟩ = some (.slice (some ⟨gp, 0, none⟩) n n) := by rw [cell_of_row w1 g 1 _ _ _ hg]; rfl
  have HJ := hide1 J1
  have HB1 := hide1 hb1
  have HNL := hide1 hn
  clear hn hg J1 hb1 H kL
  go_wp2
  go_loopw [4, 19] (fun v4 v19 wr => ∃ k : Nat, k ≤ n ∧ v19 = .int .i64 k ∧ Wo w1.heap.size wr v4 (joinL (st.take k)) ∧ Below w1.heap.size w1 wr) (fun _ v19 _ => n - (intOf v19).toNat)
  case atStart => exact ⟨0, Nat.zero_le _, rfl, Wo.nil _ _, Below.refl _ _⟩
  case round =>
    obtain ⟨k, hk, rfl, hwo, hbe⟩ := hrel
    have hzq := hbe.size
    by_cases hlt : k < n
    · have bk : (k : Int) < (n : Int) := by omega
      have bk2 : (k : Int) < 20 := by omega
      obtain ⟨xs, ho⟩ := came_all H0.out (show k < st.length by omega)
      obtain ⟨x, hx⟩ : ∃ x, l[k]? = some x := ⟨_, List.getElem?_eq_getElem (by rw [← HNL.out]; exact hlt)⟩
      obtain ⟨r0, r1, a, m, d, r2, hnl, hm, hap⟩ := HJ.out.row k x (some xs) hx ho
      have p0 := (hbe.block gp (HJ.out.lt _ HJ.out.fp)).trans HJ.out.hp
      have c0 : wr.cell? ⟨gp, k * 3, none⟩ = some (.int .i64 ((e : Int) * x.ct)) := by rw [cell_of_row wr gp _ _ _ _ p0]; exact r0
      have c1 : wr.cell? ⟨gp, k * 3 + 1, none⟩ = some (.bool true) := by rw [cell_of_row wr gp _ _ _ _ p0]; exact r1
      have c2 : wr.cell? ⟨gp, k * 3 + 2, none⟩ = some (.slice a m d) := by rw [cell_of_row wr gp _ _ _ _ p0]; exact r2
      obtain ⟨z, hz⟩ : ∃ z, z = (e : Int) * x.ct := ⟨_, rfl⟩
      rw [← hz] at c0
      have hj1 := joinL_take ho
      have hle := joinL_le (st.take k) fun j ys hj => by
        have hj2 : st[j]? = some (some ys) := by
          rw [List.getElem?_take] at hj
          split at hj
          · exact hj
          · cases hj
        obtain ⟨y, hy⟩ : ∃ y, l[j]? = some y := ⟨_, List.getElem?_eq_getElem (by have := (List.getElem?_eq_some_iff.1 hj2).1; rw [← HJ.out.len]; exact this)⟩
        obtain ⟨_, _, _, m', _, _, h1, h2, _⟩ := HJ.out.row j y _ hy hj2
        have h3 : ys.length = m' := h1.len
        omega
      have HLE : Hid ((joinL (st.take k)).length + m ≤ 1000000) := by
        have : (st.take k).length ≤ 20 := by rw [List.length_take]; omega
        show _ + _ ≤ _
        omega
      have NLK : Hid (Nl wr m a xs) := Nl.below (show Nl w1 m a xs from hnl) hbe (Nat.le_refl _)
      have HJ1 := hide1 hj1
      have WO := hide1 hwo
      have HE := hide1 hbe
      clear ho hx r0 r1 r2 hnl hm hap p0 hz hj1 hle hwo hbe
      go_wp2_with (at_builtin; go_must (refine wpList_append_wo rfl (.tmp 23) (.tmp 25) rfl rfl rfl (own_below WO.out (below1 _)) (NLK.out.below (below1 _) (Nat.le_refl _)) HLE.out (by rw [size_alloc]; omega) ?_); intro v1 W3 ho hg hf)
      have ho2 : Wo w1.heap.size W3 v1 (joinL (st.take (k + 1))) := by rw [HJ1.out]; exact ho
      have hb3 : Below w1.heap.size w1 W3 := (HE.out.alloc HE.out.size _).grown hg (by rw [size_alloc]; omega) (fun b hb => (WO.out.lt b hb).1)
      have WO3 := hide1 ho2
      have HE3 := hide1 hb3
      clear ho hg hf ho2 hb3
      go_wp2
      go_roundw
      case rel => exact ⟨k + 1, by omega, by go_num, WO3.out, HE3.out⟩
      case measure => simp [intOf]; omega
    · obtain rfl : k = n := by omega
      have nk : ¬ (k : Int) < (k : Int) := by omega
      rw [List.take_of_length_le (by omega)] at hwo
      obtain ⟨a', c', rfl⟩ := hwo.form
      have HN := hide1 (nl_own hwo)
      have HE := hide1 (HB1.out.trans (hbe.mono HB1.out.size))
      clear hwo hbe
      go_wp2
      go_ret2
      exact ⟨a', _, ⟨c', rfl⟩, HN.out, HE.out⟩
end Go.Proofs.Ytceemkjmmfkmdaa.St
