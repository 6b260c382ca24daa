/- Words appended to words of the call's own. -/
import Derived.Test.YtceemkjmmfkmdaaJ08
import Derived.Deep.AppendLies
namespace Go.Proofs.Ytceemkjmmfkmdaa.St
open Go.RowKit
set_option maxRecDepth 100000
attribute [local go_sem] not_any

/- words of the call's own, from a block on -/
def Wo (B : Nat) (w : World) (v : Value) (A : List Nat) : Prop := w.ownsRow B 22 1 v A.length (u64s A)
theorem Wo.nil (B : Nat) (w : World) : Wo B w (.slice none 0 0) [] := World.ownsRow_nil _ _ _ _
theorem Wo.form {B : Nat} {w : World} {v : Value} {A : List Nat} (h : Wo B w v A) : ∃ a c, v = .slice a A.length c := own_form h
theorem u64s_length (l : List Nat) : (u64s l).length = l.length := by simp [u64s]
theorem info_u64 : (Try.prog.info? 22).map (fun i => (i.zero, i.size, i.bytes)) = some (some (.int .u64 0), 1, 8) := by kernel_rfl

theorem run_append_empty {P : Program} {w : World} (base : Nat) (t ty e : TypeId) (i : TypeInfo) (size : Nat) (ht : P.underlying t = some (.slice e)) (hi : P.info? e = some i)
    (v : Value) (n : Nat) (xs : List Value) (hown : w.ownsRow base e size v n xs) (a : Option Addr) (c : Nat) :
    (Builtin.append_ #[t, t] ty #[v, .slice a 0 c]).run P w = .ok v w := by
  have hl : ∀ (x : Addr), (loadCells x 0).run P w = .ok #[] w := fun x => by simpa using run_loadCells_list (P := P) w x [] (by simp)
  rcases hown.2 with ⟨rfl, rfl⟩ | ⟨g, cap, cur, rfl, _, _, hnc, _⟩
  · cases a <;> simp [Builtin.append_, run_underlying ht, sizeOf, typeInfo, hi, Builtin.lenOf, Builtin.firstCells, hl]
  · cases a <;> simp [Builtin.append_, run_underlying ht, sizeOf, typeInfo, hi, Builtin.lenOf, Builtin.firstCells, hnc, storeCells, hl]

theorem run_append_wo {w : World} {B m c : Nat} {a : Option Addr} {v : Value} {A C : List Nat} (ty : TypeId) (h : Wo B w v A) (hu : Nl w m a C) (hle : A.length + m ≤ 1000000) (hB : B ≤ w.heap.size) :
    ∃ v' w', (Builtin.append_ #[51, 51] ty #[v, .slice a m c]).run Try.prog w = .ok v' w' ∧ Wo B w' v' (A ++ C) ∧ w.grownBy w' v.ownBlock ∧ (∀ g, v'.ownBlock = some g → v.ownBlock = some g ∨ w.heap.size ≤ g) := by
  obtain ⟨i0, hi, hz0, hz1, hz2⟩ := info_of' info_u64
  obtain rfl : C.length = m := hu.len
  by_cases h0 : C.length = 0
  · have hC : C = [] := List.eq_nil_of_length_eq_zero h0
    subst hC
    refine ⟨v, w, run_append_empty B _ ty _ i0 1 Try.underlying51 hi v A.length _ h a c, by simpa using h, ⟨rfl, rfl, rfl, Nat.le_refl _, fun _ _ _ => rfl⟩, fun g hg => .inl hg⟩
  · obtain ⟨g, o, rfl, _⟩ := hu.at' 0 _ (List.getElem?_eq_getElem (by omega))
    obtain ⟨v', w', hr, h2, h3, _, h5⟩ := run_append_own_at (P := Try.prog) w B 51 ty 22 i0 (.int .u64 0) 1 8 Try.underlying51 hi hz0 hz1 hz2 rfl (by decide) v A.length (u64s A) h ⟨g, o, none⟩ C.length c (u64s C) (by simp [u64s]) (fun j x hx => by
      rw [u64s, List.getElem?_map] at hx
      cases hcj : C[j]? with
      | none => rw [hcj] at hx; cases hx
      | some y =>
        rw [hcj] at hx
        obtain ⟨g', o', e, h1⟩ := hu.at' j y hcj
        cases e
        rw [Addr.add_lit, h1]
        exact hx) (fun x hx => by
      obtain ⟨b, _, rfl⟩ := List.mem_map.1 hx
      rfl) (by unfold maxLen; omega) (by omega) hB
    refine ⟨v', w', hr, by unfold Wo; simpa [u64s] using h2, h3, fun g hg => ?_⟩
    rcases h5 with h5 | h5
    · exact .inl (h5 ▸ hg)
    · rw [h5] at hg
      cases hg
      exact .inr (Nat.le_refl _)
theorem wp_append_wo {w : World} {o : Oper} {act : Act} {K : Act → World → Prop} {Q : Exit → Act → World → Prop} (s x : Operand) (ho : o.op = .call { callee := .builtin .append, args := #[s, x], argTypes := #[51, 51] })
    {B m c : Nat} {a : Option Addr} {v : Value} {A C : List Nat} (hs : act.eval s = v) (hx : act.eval x = .slice a m c) (h : Wo B w v A) (hu : Nl w m a C) (hle : A.length + m ≤ 1000000) (hB : B ≤ w.heap.size)
    (hk : ∀ v' w', Wo B w' v' (A ++ C) → w.grownBy w' v.ownBlock → (∀ g, v'.ownBlock = some g → v.ownBlock = some g ∨ w.heap.size ≤ g) → K (act.put o.dst v') w') : o.wp Try.prog act w K Q := by
  obtain ⟨v', w', hr, h2, h3, h4⟩ := run_append_wo (c := c) o.type h hu hle hB
  unfold Oper.wp execOp
  simp only [ho, resolve, invoke, builtin, Sem.run_bind, Sem.run_pure, Result.andThen_ok, List.map_toArray, List.map_cons, List.map_nil, hs, hx, hr]
  exact hk v' w' h2 h3 h4
theorem wpList_append_wo {w : World} {ops : Array Oper} {rest : List Oper} {o : Oper} {act : Act} {Q : Exit → Act → World → Prop} (hgd : o.guard = none) (s x : Operand) (ho : o.op = .call { callee := .builtin .append, args := #[s, x], argTypes := #[51, 51] })
    {B m c : Nat} {a : Option Addr} {v : Value} {A C : List Nat} (hs : act.eval s = v) (hx : act.eval x = .slice a m c) (h : Wo B w v A) (hu : Nl w m a C) (hle : A.length + m ≤ 1000000) (hB : B ≤ w.heap.size)
    (hk : ∀ v' w', Wo B w' v' (A ++ C) → w.grownBy w' v.ownBlock → (∀ g, v'.ownBlock = some g → v.ownBlock = some g ∨ w.heap.size ≤ g) → wpList Try.prog ops Q rest (act.put o.dst v') w') : wpList Try.prog ops Q (o :: rest) act w :=
  wpList_plain hgd fun _ hK => wp_append_wo s x ho hs hx h hu hle hB fun v' w' h2 h3 h4 => hK _ _ (hk v' w' h2 h3 h4)

set_option maxHeartbeats 2000000 in
theorem nums_any (w : World) (m c c' : Nat) (a b : Option Addr) (xs : List Nat) (ha : Nl w m a xs) (hb : Nl w m b xs) (hm : m ≤ 1000000) :
    Calls Try.prog 20 #[.slice a m c, .slice b m c'] w fun e w' => e = .returned (.bool true) ∧ ∃ q, w' = w.drewN q := by
  have mixed := mixed
  have HA := hide1 ha
  have HB := hide1 hb
  clear ha hb
  have h' : ((m : Int) != (m : Int)) = false := by simp
  go_enter Try.func20, Try.ntmps20
  go_wp2
  go_loopw [5] (fun i wr => ∃ k q : Nat, k ≤ m ∧ i = .int .i64 k ∧ wr = w.drewN q) (fun i _ => m - (intOf i).toNat)
  case atStart => exact ⟨0, 0, Nat.zero_le _, rfl, rfl⟩
  case round =>
    obtain ⟨k, q, hk, rfl, rfl⟩ := hrel
    by_cases hlt : k < m
    · obtain ⟨x, hx⟩ : ∃ x, xs[k]? = some x := ⟨_, List.getElem?_eq_getElem (by rw [HA.out.len]; exact hlt)⟩
      obtain ⟨ga, oa, rfl, hca⟩ := HA.out.at' k x hx
      obtain ⟨gb, ob, rfl, hcb⟩ := HB.out.at' k x hx
      have hca' : (w.drewN q).cell? ⟨ga, oa + k, none⟩ = some (.int .u64 (x : Int)) := hca
      have hcb' : (w.drewN q).cell? ⟨gb, ob + k, none⟩ = some (.int .u64 (x : Int)) := hcb
      clear hx
      have h2 : ((x : Int) != (x : Int)) = false := by simp
      go_wp2
      go_quiet (fail)
      go_wp2
      exact ⟨⟨k + 1, q + nq, by omega, by go_num, rfl⟩, by simp [intOf]; omega⟩
    · have : k = m := by omega
      subst this
      go_wp2
      go_ret
      exact ⟨rfl, q, rfl⟩
end Go.Proofs.Ytceemkjmmfkmdaa.St
