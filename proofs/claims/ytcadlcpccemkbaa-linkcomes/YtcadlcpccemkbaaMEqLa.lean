/- How the arguments are opened. Pure: numbers of what is told; frames that an end makes, by their numbers. -/
import Derived.Test.YtcadlcpccemkbaaEl
import Derived.ProofKit
import Derived.OpenShut
import Derived.ShutString
import Derived.ChangeSame
import Derived.ChangeVars
import Derived.ChangeOld
import Derived.ChangeMaps5
import Derived.Below
import Derived.Deep.Grids
import Derived.Deep.Slices
import Derived.Carry
import Derived.Test.YtcadlcpccemkbaaMEjVt
namespace Go.Proofs.Ytcadlcpccemkbaa
open Go.ChangeShapes Go.WideShapes Go.RowKit Go.Deep
set_option maxRecDepth 100000

theorem own : ownKnob Try.prog.godebug = none := by kernel_rfl
theorem laidOut : laidOutB Try.prog = true := by kernel_rfl
theorem nat_u8 {n : Int} (h : (Lit.int .u8 n).wf = true) : ∃ a : Nat, n = (a : Int) ∧ a < 256 := by
  obtain ⟨h1, h2⟩ := bounds_u8 h
  exact ⟨n.toNat, by omega, by omega⟩
theorem four_list {α : Type} (l : List α) (h : l.length = 4) : ∃ a b c d, l = [a, b, c, d] := by
  match l, h with
  | [a, b, c, d], _ => exact ⟨a, b, c, d, rfl⟩
theorem cellsM : Try.prog.cellsOf 38 = 4 := by kernel_rfl
theorem cells3 : Try.prog.cellsOf 3 = 1 := by kernel_rfl
theorem cells5 : Try.prog.cellsOf 5 = 1 := by kernel_rfl
theorem cells9 : Try.prog.cellsOf 9 = 1 := by kernel_rfl
theorem add_plain (g o j : Nat) : (⟨g, o, none⟩ : Addr).add j = ⟨g, o + j, none⟩ := by unfold Addr.add; split <;> simp_all

/- what happens, opened -/
theorem open_moves {H : Type} {enc : TypeId × Value → H} {W : World} {held : Bool} {fuel : Nat} {a : Option Addr} {len cap : Nat} {x : DataW H × List MemPlace} (h : DataW.trod enc Try.prog W 0 (fun _ => true) held fuel 22 [.slice a len cap] = some x) : Mvs W len a := by
  rcases open_slice Try.underlying22 h with ⟨h0, _⟩ | ⟨ad, len', cap', m, n, D, Pl, hcs, _, hl, _, hmm, hx0, hx⟩
  · cases h0
    intro j hj
    omega
  cases hcs
  have hlm : len ≤ m := by rw [hmm]; split <;> omega
  intro j hj
  obtain ⟨cs', h1, h2⟩ := hx j (by omega)
  rw [cellsM] at h1
  obtain ⟨_, hlen, hcell⟩ := World.cells?_some h1
  obtain ⟨xs, k, hk, hxy, _, hxl, hf⟩ := DataW.trod_struct Try.underlying38 h2
  have hxl' : xs.length = 4 := hxl
  clear hxl
  obtain ⟨y0, y1, y2, y3, rfl⟩ := four_list xs hxl'
  obtain ⟨v0, v1, v2, v3, rfl⟩ := four_list cs' hlen
  have g0 := hf 0 _ rfl
  have g1 := hf 1 _ rfl
  have g2 := hf 2 _ rfl
  have g3 := hf 3 _ rfl
  simp [cells3, cells5, cells9] at g0 g1 g2 g3
  obtain ⟨q0, e0, _, _⟩ := DataW.trod_int Try.underlying3 g0
  obtain ⟨q1, e1, _, _⟩ := DataW.trod_int Try.underlying3 g1
  obtain ⟨q2, e2, _, wf2⟩ := DataW.trod_int Try.underlying5 g2
  obtain ⟨q3, e3, _, _⟩ := DataW.trod_string Try.underlying9 g3
  simp only [List.cons.injEq, and_true] at e0 e1 e2 e3
  subst e0; subst e1; subst e2; subst e3
  obtain ⟨a2, rfl, z2⟩ := nat_u8 wf2
  have c0 := hcell 0 (by simp)
  have c1 := hcell 1 (by simp)
  have c2 := hcell 2 (by simp)
  have c3 := hcell 3 (by simp)
  rw [add_add] at c0 c1 c2 c3
  have hsp : ad.spot = none := by
    obtain ⟨cs0, k1, _⟩ := hx 0 (by omega)
    rw [cellsM] at k1
    obtain ⟨_, klen, kcell⟩ := World.cells?_some k1
    obtain ⟨y0, y1, y2, y3, rfl⟩ := four_list cs0 klen
    have k0 := kcell 0 (by simp)
    rw [add_add] at k0
    have := World.cell?_spot k0
    simpa [Addr.add] using this
  obtain ⟨g, o, sp0⟩ := ad
  simp only at hsp
  subst hsp
  rw [add_plain] at c0 c1 c2 c3
  exact ⟨g, o, q0, q1, a2, q3, rfl, z2, by simpa using c0, by simpa [Nat.add_assoc] using c1, by simpa [Nat.add_assoc] using c2, by simpa [Nat.add_assoc] using c3⟩

end Go.Proofs.Ytcadlcpccemkbaa

namespace Go.Proofs.Ytcadlcpccemkbaa
set_option maxRecDepth 100000

theorem tkA_le (a : Nat) (l : List (Nat × ByteArray)) (q : Nat) (b : ByteArray) : a ≤ tkA a l q b := Nat.le_add_right _ _
theorem told_upto : ∀ (l : List (Nat × ByteArray)) (a m : Nat), (∀ p ∈ l, p.1 ≤ m) → a ≤ m → a + (stO (a + 1) l).length ≤ m
  | [], a, m, _, ha => by simp [stO]; exact ha
  | p :: l, a, m, h, ha => by
    rw [stO]
    split
    · rename_i e
      have h1 := h p (by simp)
      have := told_upto l (a + 1) m (fun q hq => h q (List.mem_cons_of_mem _ hq)) (by omega)
      rw [List.length_cons]
      omega
    · simp; exact ha
theorem tkA_upto {a m q : Nat} {l : List (Nat × ByteArray)} {b : ByteArray} (hl : ∀ p ∈ l, p.1 ≤ m) (hq : q ≤ m) (ha : a ≤ m) : tkA a l q b ≤ m ∧ ∀ p ∈ tkR a l q b, p.1 ≤ m := by
  have hi : ∀ p ∈ ins q b l, p.1 ≤ m := fun p hp => by
    rcases mem_ins.1 hp with rfl | hp
    · exact hq
    · exact hl p hp
  unfold tkA tkR tkO
  split
  · exact ⟨told_upto _ a m hi ha, fun p hp => hi p (stR_sub hp)⟩
  · exact ⟨by simp; exact ha, hl⟩
theorem tkA_next {a : Nat} {l : List (Nat × ByteArray)} {b : ByteArray} (h : Hd a l) : a + 1 ≤ tkA a l (a + 1) b := by
  have hc : chkC a (lk l) (a + 1) = 0 := by
    have hn : lk l (a + 1) = none := lk_absent fun p hp e => by have := h.low p hp; omega
    unfold chkC
    rw [hn]
    rw [if_neg (by simp), if_neg (by omega)]
  unfold tkA tkO
  rw [if_pos hc]
  cases l with
  | nil => simp [ins, stO]
  | cons p r =>
    have h1 := h.low p (by simp)
    rw [ins, if_pos (by omega), stO, if_pos rfl]
    simp
theorem tkA_at {a q : Nat} {l : List (Nat × ByteArray)} {b : ByteArray} (h : Hd a l) (hq : q ≤ a + 1) : q ≤ tkA a l q b := by
  rcases (show q ≤ a ∨ q = a + 1 by omega) with h1 | rfl
  · exact Nat.le_trans h1 (tkA_le _ _ _ _)
  · exact tkA_next h

/- a frame on its way to x, made by y, by its numbers -/
def Fn (P : Nat → Nat → Nat → Prop) (x y : Ls) (t : ByteArray) : Prop :=
  ∃ k o p q a b, t = tx k o p q a b ∧ Fit k o p q a b ∧ P k o p ∧ o ≤ y.own ∧ p ≤ x.own ∧ (o = y.own → p ≤ y.peer) ∧ (o = y.own → p = x.own → y.peer = x.own → k ≠ 1 → 1 ≤ a ∧ a ≤ y.a + 1 ∧ (k = 2 → q ≤ y.k + y.A.length))
def Any (_ _ _ : Nat) : Prop := True
theorem Fn.weak {P P' : Nat → Nat → Nat → Prop} {x y : Ls} {t : ByteArray} (h : Fn P x y t) (hP : ∀ k o p, P k o p → P' k o p) : Fn P' x y t := by
  obtain ⟨k, o, p, q, a, b, e, hf, h0, h1⟩ := h
  exact ⟨k, o, p, q, a, b, e, hf, hP _ _ _ h0, h1⟩
theorem Fn.any {P : Nat → Nat → Nat → Prop} {x y : Ls} {t : ByteArray} (h : Fn P x y t) : Fn Any x y t := h.weak fun _ _ _ _ => trivial
theorem Fn.same {P : Nat → Nat → Nat → Prop} {x x' y y' : Ls} {t : ByteArray} (h : Fn P x y t) (hx : x'.own = x.own) (ho : y'.own = y.own) (hp : y'.peer = y.peer) (ha : y.a ≤ y'.a) (hk : y.k + y.A.length ≤ y'.k + y'.A.length) : Fn P x' y' t := by
  obtain ⟨k, o, p, q, a, b, e, hf, h0, h1, h2, h3, h4⟩ := h
  refine ⟨k, o, p, q, a, b, e, hf, h0, ho ▸ h1, hx ▸ h2, fun e => hp ▸ h3 (ho ▸ e), fun e1 e2 e3 e4 => ?_⟩
  obtain ⟨g1, g2, g3⟩ := h4 (ho ▸ e1) (hx ▸ e2) (by rw [← hp, e3, hx]) e4
  exact ⟨g1, by omega, fun e5 => by have := g3 e5; omega⟩
theorem tell_fn {N : Nat} {P : Nat → Nat → Nat → Prop} {x y : Ls} {l : List (Nat × ByteArray)} (hy : y.Ok N) (hN : N + 1000 < 4294967296) (hp : y.peer ≤ x.own) (hl : Fms y l) (hP : ∀ k, (y.sure = true → k ≠ 1) → P k y.own y.peer) (hs : ∀ p ∈ l, p.1 ≤ y.k + y.A.length) : ∀ t ∈ y.tell l, Fn P x y t := by
  intro t ht
  have ha := hy.aN
  unfold Ls.tell at ht
  split at ht
  · rw [List.mem_singleton.1 ht]
    unfold Ls.pln
    split
    · rename_i hsu
      exact ⟨3, y.own, y.peer, 0, y.a + 1, ⟨#[]⟩, rfl, ⟨chk_quiet hy.own0 (hy.sp hsu), hy.own, hy.peer, by decide, by omega⟩, hP 3 (fun _ => by decide), Nat.le_refl _, hp, fun _ => Nat.le_refl _, fun _ _ _ _ => ⟨by omega, Nat.le_refl _, fun e => (by omega)⟩⟩
    · rename_i hsu
      exact ⟨1, y.own, y.peer, 0, 0, ⟨#[]⟩, rfl, ⟨chk_hello hy.own0, hy.own, hy.peer, by decide, by decide⟩, hP 1 (fun e => absurd e hsu), Nat.le_refl _, hp, fun _ => Nat.le_refl _, fun _ _ _ e => absurd rfl e⟩
  · rename_i hne
    obtain ⟨p, hpm, rfl⟩ := List.mem_map.1 ht
    obtain ⟨h1, h2, h3⟩ := hl.num p hpm
    exact ⟨2, y.own, y.peer, p.1, y.a + 1, p.2, rfl, ⟨chk_data hy.own0 (hl.peer hne) h1 h3, hy.own, hy.peer, h2, by omega⟩, hP 2 (fun _ => by decide), Nat.le_refl _, hp, fun _ => Nat.le_refl _, fun _ _ _ _ => ⟨by omega, Nat.le_refl _, fun _ => hs p hpm⟩⟩
theorem tick_fn {N : Nat} {P : Nat → Nat → Nat → Prop} {x y : Ls} (hy : y.Ok N) (hN : N + 1000 < 4294967296) (hp : y.peer ≤ x.own) (hP : ∀ k, (y.sure = true → k ≠ 1) → P k y.own y.peer) : ∀ t ∈ y.tickF, Fn P x y.flush t := by
  refine tell_fn (y := y.mv) hy.mv hN hp (Ls.fms_pend hy.mv hN) hP fun p hpm => ?_
  obtain ⟨h1, h2⟩ := mem_pend_at hpm
  have h3 := (List.getElem?_eq_some_iff.1 h2).1
  change y.k + 1 ≤ p.1 at h1
  change p.1 ≤ y.k + y.mv.A.length
  omega
theorem flush_fn {N : Nat} {P : Nat → Nat → Nat → Prop} {x y : Ls} (hy : y.Ok N) (hN : N + 1000 < 4294967296) (hp : y.peer ≤ x.own) (hP : ∀ k, (y.sure = true → k ≠ 1) → P k y.own y.peer) : ∀ t ∈ y.flushF, Fn P x y.flush t := by
  intro t ht
  unfold Ls.flushF at ht
  split at ht
  · simp at ht
  · refine tell_fn (y := y.mv) hy.mv hN hp (Ls.fms_mvd hy hN) hP (fun p hpm => ?_) t ht
    obtain ⟨h1, h2⟩ := mem_pend_at hpm
    have h3 := (List.getElem?_eq_some_iff.1 h2).1
    obtain ⟨e1, _, _⟩ := Ls.mv_A hy
    rw [List.length_take] at h3
    change p.1 ≤ y.k + (y.A ++ y.Q.take y.mvn).length
    omega

end Go.Proofs.Ytcadlcpccemkbaa
