/- A joiner in memory; nobody's; check; a list of words cloned. -/
import Derived.Test.YtceemkjmmfkmdaaJ05
import Derived.Test.YtceemkjmmfkmdaaJ09
namespace Go.Proofs.Ytceemkjmmfkmdaa.St
open Go.RowKit
set_option maxRecDepth 100000
attribute [local go_sem] not_any

/- the part j of a joiner: how many must come, and what came -/
structure Prw (w : World) (F : Nat → Prop) (g gp : Nat) (ps : Array Value) (j : Nat) (z : Int) (o : Option (List Nat)) : Prop where
  size : ps[j * 3]? = some (.int .i64 z)
  came : ps[j * 3 + 1]? = some (.bool o.isSome)
  nums : ∃ a m d, ps[j * 3 + 2]? = some (.slice a m d) ∧ Nl w m a (o.getD []) ∧ m ≤ 3072 ∧ ∀ b q, a = some ⟨b, q, none⟩ → F b ∧ b ≠ g ∧ b ≠ gp
structure Jm (w : World) (g gp : Nat) (ps : Array Value) (F : Nat → Prop) (l : List Chk) (e : Nat) (st : Sts) : Prop where
  len : st.length = l.length
  lim : l.length ≤ 20
  e6 : e ≤ 6
  cts : ∀ c ∈ l, 1 ≤ c.ct ∧ c.ct ≤ 512
  ne : g ≠ gp
  hg : w.heap[g]? = some (.cells #[.bool true, .slice (some ⟨gp, 0, none⟩) l.length l.length] 66 (0, 0))
  hp : w.heap[gp]? = some (.cells ps 72 (0, 0))
  fg : F g
  fp : F gp
  lt : ∀ b, F b → b < w.heap.size
  row : ∀ (j : Nat) (c : Chk) (o : Option (List Nat)), l[j]? = some c → st[j]? = some o → Prw w F g gp ps j ((e : Int) * c.ct) o
theorem Nl.same {w w' : World} {n : Nat} {a : Option Addr} {l : List Nat} (h : Nl w n a l) (hb : ∀ g o, a = some ⟨g, o, none⟩ → w'.heap[g]? = w.heap[g]?) : Nl w' n a l := ⟨h.len, fun j x hj => by
  obtain ⟨g, o, e, hc⟩ := h.at' j x hj
  refine ⟨g, o, e, ?_⟩
  unfold World.cell? at hc ⊢
  rw [hb g o e]
  exact hc⟩
theorem Jm.keep {w w' : World} {g gp : Nat} {ps : Array Value} {F : Nat → Prop} {l : List Chk} {e : Nat} {st : Sts} (h : Jm w g gp ps F l e st) (hb : ∀ b, F b → w'.heap[b]? = w.heap[b]?) : Jm w' g gp ps F l e st :=
  ⟨h.len, h.lim, h.e6, h.cts, h.ne, (hb g h.fg).trans h.hg, (hb gp h.fp).trans h.hp, h.fg, h.fp, fun b hF => by
    have h1 := Array.getElem?_eq_getElem (h.lt b hF)
    exact lt_heap ((hb b hF).trans h1), fun j c o hc ho => by
    obtain ⟨h1, h2, a, m, d, h3, h4, h5, h6⟩ := h.row j c o hc ho
    exact ⟨h1, h2, a, m, d, h3, h4.same fun b q hq => hb b (h6 b q hq).1, h5, h6⟩⟩
theorem Jm.below {w w' : World} {g gp : Nat} {ps : Array Value} {F : Nat → Prop} {l : List Chk} {e : Nat} {st : Sts} (h : Jm w g gp ps F l e st) (hb : Below w.heap.size w w') : Jm w' g gp ps F l e st := h.keep fun b hF => hb.block b (h.lt b hF)

theorem none_made (w : World) (g : Nat) (x : Value) (h : w.heap[g]? = some (.cells #[.bool true, x] 66 (0, 0))) : Calls Try.prog 24 #[.pointer (some ⟨g, 0, none⟩)] w fun e w' => e = .returned (.bool false) ∧ w' = w := by
  have c0 : w.cell? ⟨g, 0, none⟩ = some (.bool true) := by rw [cell_of_row w g 0 _ _ _ h]; rfl
  clear h
  go_enter Try.func24, Try.ntmps24
  go_wp2
  go_ret
  exact ⟨rfl, rfl⟩

theorem goodGo_step {l : List Chk} {N k : Nat} {x : Chk} (hx : l[k]? = some x) (h : goodGo (l.drop k) N = 0) : (¬ x.ct < 1 ∧ ¬ 512 < x.ct ∧ x.sk = (N : Int)) ∧ N + x.ct.toNat ≤ 4096 ∧ goodGo (l.drop (k + 1)) (N + x.ct.toNat) = 0 := by
  rw [drop_cons hx, goodGo] at h
  by_cases hb : badC x N
  · rw [if_pos hb] at h; cases h
  · rw [if_neg hb] at h
    by_cases h4 : 4096 < N + x.ct.toNat
    · rw [if_pos h4] at h; cases h
    · rw [if_neg h4] at h
      unfold badC at hb
      exact ⟨⟨fun h1 => hb (.inl h1), fun h1 => hb (.inr (.inl h1)), by
        by_cases h5 : x.sk = (N : Int)
        · exact h5
        · exact absurd (.inr (.inr h5)) hb⟩, by omega, h⟩

set_option maxHeartbeats 4000000 in
theorem check_good (n c : Nat) (a : Option Addr) (l : List Chk) (w : World) (ha : Cl w n a l) (hn : n ≤ 20) (hg : goodGo l 0 = 0) :
    Calls Try.prog 23 #[.slice a n c] w fun e w' => e = .returned (.int .i64 0) ∧ Below w.heap.size w w' := by
  have HA := hide1 ha
  have HG := hide1 hg
  clear ha hg
  go_enter Try.func23, Try.ntmps23
  go_wp2
  go_loopw [3, 8] (fun v3 v8 wr => ∃ k N : Nat, k ≤ n ∧ v8 = .int .i64 k ∧ v3 = .int .i64 N ∧ N ≤ 4096 ∧ goodGo (l.drop k) N = 0 ∧ Below w.heap.size w wr) (fun _ v8 _ => n - (intOf v8).toNat)
  case atStart => exact ⟨0, 0, Nat.zero_le _, rfl, rfl, Nat.zero_le _, HG.out, Below.refl _ _⟩
  case round =>
    obtain ⟨k, N, hk, rfl, rfl, hN, hG, hbe⟩ := hrel
    by_cases hlt : k < n
    · have bk : (k : Int) < (n : Int) := by omega
      have bk2 : (k : Int) < 20 := by omega
      obtain ⟨x, hx⟩ : ∃ x, l[k]? = some x := ⟨_, List.getElem?_eq_getElem (by rw [HA.out.len]; exact hlt)⟩
      obtain ⟨⟨t1, t2, t3⟩, hM4, hG2⟩ := goodGo_step hx hG
      obtain ⟨ga, oa, rfl, a0, a1, a2⟩ := (HA.out.below hbe (Nat.le_refl _)).at' k x hx
      obtain ⟨ja, hja⟩ : ∃ j, j = oa + k * 3 := ⟨_, rfl⟩
      rw [← hja] at a0 a1 a2
      have eja : oa + k * 3 = ja := hja.symm
      obtain ⟨f, ct, sk⟩ := x
      obtain ⟨C, rfl⟩ : ∃ C : Nat, ct = (C : Int) := ⟨ct.toNat, by have := t1; simp only at this; omega⟩
      have t3 : sk = (N : Int) := t3
      subst t3
      have hM4 : N + C ≤ 4096 := hM4
      have hG2 : goodGo (l.drop (k + 1)) (N + C) = 0 := hG2
      have t1 : ¬ (C : Int) < 1 := t1
      have t2 : ¬ 512 < (C : Int) := t2
      have q0 : ((N : Int) != (N : Int)) = false := by simp
      have e1 : IntKind.i64.wrap ((N : Int) + (C : Int)) = ((N + C : Nat) : Int) := by rw [← Int.natCast_add, wrap_i64_nat (by omega)]
      obtain ⟨M, hM⟩ : ∃ M, M = N + C := ⟨_, rfl⟩
      rw [← hM] at e1 hG2 hM4
      have HG2 := hide1 hG2
      have HE := hide1 hbe
      clear hx hja hG hG2 hM hbe
      have a0 : wr.cell? ⟨ga, ja, none⟩ = some (.int .u64 (f : Int)) := a0
      have a1 : wr.cell? ⟨ga, ja + 1, none⟩ = some (.int .i64 (C : Int)) := a1
      have a2 : wr.cell? ⟨ga, ja + 2, none⟩ = some (.int .i64 (N : Int)) := a2
      go_wp2
      go_roundw
      case rel => exact ⟨k + 1, M, by omega, by go_num, rfl, hM4, HG2.out, HE.out.alloc HE.out.size _⟩
      case measure => simp [intOf]; omega
    · obtain rfl : k = n := by omega
      have nk : ¬ (k : Int) < (k : Int) := by omega
      have n4 : ¬ (4096 : Int) < (N : Int) := by omega
      have HE := hide1 hbe
      clear hG hbe
      go_wp2
      go_ret
      exact ⟨rfl, HE.out⟩

theorem wo_empty (w : World) : Wo w.heap.size (w.alloc (.cells #[] 22 (0, 0))) (.slice (some ⟨w.heap.size, 0, none⟩) 0 0) [] := World.ownsRow_made w #[] 0 (Nat.le_refl _) (Nat.zero_le _) rfl
theorem clone_any (w : World) (m c : Nat) (a : Option Addr) (xs : List Nat) (h : Nl w m a xs) (hm : m ≤ 4096) :
    Calls Try.prog 25 #[.slice a m c] w fun e w' => ∃ a' c', e = .returned (.slice a' m c') ∧ Nl w' m a' xs ∧ (∀ b q, a' = some ⟨b, q, none⟩ → w.heap.size ≤ b ∧ b < w'.heap.size) ∧ Below w.heap.size w w' := by
  have q27 : ∀ (w : World) (a : Option Addr) (n c n' c' : Nat), (binOp .eql 51 (.slice a n c) (.slice none n' c')).run Try.prog w = .ok (.bool a.isNone) w := fun w a n c n' c' => Lib.run_eql_slice_nil w _ _ a n c n' c' Try.underlying51
  have H := hide1 h
  clear h
  cases a with
  | none =>
    have hm0 : m = 0 := by
      cases xs with
      | nil => have := H.out.len; simpa using this.symm
      | cons x xs => obtain ⟨g, o, e, _⟩ := H.out.at' 0 x rfl; cases e
    subst hm0
    go_enter Try.func25, Try.ntmps25
    go_wp2
    go_ret
    exact ⟨none, 0, rfl, ⟨H.out.len, H.out.at'⟩, fun b q e => by (cases e), Below.refl _ _⟩
  | some p =>
    go_enter Try.func25, Try.ntmps25
    go_wp2_with (at_builtin; go_must (refine wpList_append_wo rfl (.tmp 5) (.tmp 6) rfl rfl rfl (wo_empty w) (H.out.below (below1 _) (Nat.le_refl _)) (by simp; omega) (by simp) ?_); intro v1 W3 ho hg hf)
    obtain ⟨a', c', rfl⟩ := ho.form
    have hlen : ([] ++ xs : List Nat).length = m := by rw [List.nil_append, H.out.len]
    have HN : Hid (Nl W3 m a' xs) := by
      have := nl_own ho
      rw [hlen] at this
      exact this
    have HB : Hid (Below w.heap.size w W3) := (below1 _).grown hg (by simp) (fun k hk => ((wo_empty w).lt k hk).1)
    have HF : Hid (∀ b q, a' = some ⟨b, q, none⟩ → w.heap.size ≤ b ∧ b < W3.heap.size) := fun b q e => by
      subst e
      exact ho.lt b (by simp [Value.ownBlock])
    rw [hlen]
    clear ho hg hf hlen
    go_wp2
    go_ret
    exact ⟨a', c', rfl, HN.out, HF.out, HB.out⟩
end Go.Proofs.Ytceemkjmmfkmdaa.St
