/- The document's In: Take. Numbered bodies told, and compared. The document's In: Take, where a body is put among those that are held. -/
import Derived.Test.YtcadlcpccemkbaaGreatDoorJg
import Derived.Test.YtcadlcpccemkbaaGreatDoorJk
namespace Go.Proofs.YtcadlcpccemkbaaGreatDoor
open Go.RowKit
set_option maxRecDepth 100000
attribute [local go_sem] not_any

theorem results_three {fn : Func} {p u z : Tmp} {ty : TypeId} (h : fn.results = #[.cell p ty, .tmp u, .tmp z]) (tmps : Array Value) (P : Program) (w : World) :
    (results fn tmps).run P w =
      ((asAddr (tmps.getD p undef)).run P w).andThen fun a w1 => ((loadVar ty a).run P w1).andThen fun v w2 => .ok (.tuple #[v, tmps.getD u undef, tmps.getD z undef]) w2 := by
  simp only [results, h]
  simp [Sem.run_bind, Result.andThen]
theorem ret_i3 {fn : Func} {p u z : Tmp} (h : fn.results = #[.cell p 37, .tmp u, .tmp z]) {R : Ending → World → Prop} {a : Act} {w : World} (g : Nat) (x y v v2 : Value) (hp : a.tmps.getD p undef = .pointer (some ⟨g, 0, none⟩))
    (hu : a.tmps.getD u undef = v) (hz : a.tmps.getD z undef = v2) (hg : w.heap[g]? = some (.cells #[x, y] 37 (0, 0))) (hd : a.defers = []) (hR : R (.returned (.tuple #[.agg #[x, y], v, v2])) w) : bodyPost Tryz.prog fn R .ret a w := by
  refine bodyPost_ret_by (v := .tuple #[.agg #[x, y], v, v2]) ?_ hd hR
  have hl := run_loadVar_row (P := Tryz.prog) w g 37 37 #[x, y] (0, 0) _ hg Tryz.underlying37 rfl (by kernel_rfl)
  rw [results_three h, hp, hu, hz]
  simp [asAddr, hl, Result.andThen]
theorem two_new (w : World) (a b : Obj) : ((w.alloc a).alloc b).heap[w.heap.size]? = some a ∧ ((w.alloc a).alloc b).heap[w.heap.size + 1]? = some b := by
  have s1 : (w.alloc a).heap.size = w.heap.size + 1 := by simp
  exact ⟨by rw [Below.heap_alloc _ _ _ (by simp), heap_alloc_new], by rw [← s1, heap_alloc_new]⟩
theorem below2 {w : World} (a b : Obj) : Below w.heap.size w ((w.alloc a).alloc b) := (below1 a).alloc (by simp) _

/- what is wrong, with the In as it was -/
theorem rtake_old (a q : Nat) (u1 : Option Addr) (n c : Nat) (b : ByteArray) (w : World) (hq : q < a + 1) :
    Calls Tryz.prog 61 #[.agg #[.int .i64 ((a + 1 : Nat) : Int), .slice u1 n c], .int .i64 (q : Int), .string b] w fun e w' => e = .returned (.tuple #[.agg #[.int .i64 ((a + 1 : Nat) : Int), .slice u1 n c], .slice none 0 0, .int .i64 21]) ∧ Below w.heap.size w w' := by
  have g1 : (q : Int) < ((a + 1 : Nat) : Int) := by omega
  go_enter Tryz.func61, Tryz.ntmps61
  go_wp2
  exact ret_i3 Tryz.results61 (w.heap.size + 1) _ _ _ _ rfl rfl rfl (two_new _ _ _).2 rfl ⟨rfl, below2 _ _⟩
theorem rtake_far (a q : Nat) (u1 : Option Addr) (n c : Nat) (b : ByteArray) (w : World) (hq : a + 17 ≤ q) (hq2 : q < 4294967296) :
    Calls Tryz.prog 61 #[.agg #[.int .i64 ((a + 1 : Nat) : Int), .slice u1 n c], .int .i64 (q : Int), .string b] w fun e w' => e = .returned (.tuple #[.agg #[.int .i64 ((a + 1 : Nat) : Int), .slice u1 n c], .slice none 0 0, .int .i64 23]) ∧ Below w.heap.size w w' := by
  have g1 : ¬ (q : Int) < ((a + 1 : Nat) : Int) := by omega
  have g2 : (16 : Int) ≤ (q : Int) - ((a + 1 : Nat) : Int) := by omega
  go_enter Tryz.func61, Tryz.ntmps61
  go_wp2
  exact ret_i3 Tryz.results61 (w.heap.size + 1) _ _ _ _ rfl rfl rfl (two_new _ _ _).2 rfl ⟨rfl, below2 _ _⟩

end Go.Proofs.YtcadlcpccemkbaaGreatDoor

namespace Go.Proofs.YtcadlcpccemkbaaGreatDoor
open Go.RowKit
set_option maxRecDepth 100000
attribute [local go_sem] not_any

theorem at_pair {l : List (Nat × ByteArray)} {j : Nat} (h : j < l.length) : (kAt l j, sAt l j) = l[j] := by
  simp [kAt, sAt, List.getElem?_eq_getElem h]
theorem take_pair {l : List (Nat × ByteArray)} {j : Nat} (h : j < l.length) : l.take j ++ [(kAt l j, sAt l j)] = l.take (j + 1) := by
  rw [at_pair h]
  exact List.take_append_getElem h

end Go.Proofs.YtcadlcpccemkbaaGreatDoor

namespace Go.Proofs.YtcadlcpccemkbaaGreatDoor
open Go.RowKit
set_option maxRecDepth 100000
attribute [local go_sem] not_any

def capOf : Value → Nat
  | .slice _ _ c => c
  | _ => 0
theorem Nls.cap {T B : Nat} {w : World} {v : Value} {l : List (Nat × ByteArray)} (h : Nls T B w v l) : l.length ≤ capOf v := by
  rcases h.2 with ⟨rfl, h0⟩ | ⟨g, cap, cur, rfl, _, _, hn, _⟩
  · rw [h0]; exact Nat.zero_le _
  · exact hn
theorem drop_pair {l : List (Nat × ByteArray)} {j : Nat} (h : j < l.length) : l.drop j = (kAt l j, sAt l j) :: l.drop (j + 1) := by
  rw [at_pair h]
  exact List.drop_eq_getElem_cons h
/- the list from its second one on -/
theorem Rnl.cut {w : World} {g o n c : Nat} {p : Nat × ByteArray} {r : List (Nat × ByteArray)} (h : Rnl w (.slice (some ⟨g, o, none⟩) n c) (p :: r)) : Rnl w (.slice (some ⟨g, o + 2, none⟩) (n - 1) (c - 1)) r := by
  obtain ⟨a, c', e, hc⟩ := h
  cases e
  refine ⟨some ⟨g, o + 2, none⟩, c - 1, rfl, fun j hj => ?_⟩
  obtain ⟨g', o', e, h1, h2⟩ := hc (j + 1) (by simp; omega)
  cases e
  rw [show o + (j + 1) * 2 = o + 2 + j * 2 by omega] at h1 h2
  exact ⟨g, o + 2, rfl, h1, h2⟩
theorem Rnl.head {w : World} {a : Option Addr} {n c : Nat} {p : Nat × ByteArray} {r : List (Nat × ByteArray)} (h : Rnl w (.slice a n c) (p :: r)) : ∃ g o, a = some ⟨g, o, none⟩ ∧ n = r.length + 1 ∧ w.cell? ⟨g, o, none⟩ = some (.int .u32 (p.1 : Int)) ∧ w.cell? ⟨g, o + 1, none⟩ = some (.string p.2) := by
  obtain ⟨a', c', e, hc⟩ := h
  cases e
  obtain ⟨g, o, e, h1, h2⟩ := hc 0 (by simp)
  cases e
  exact ⟨g, o, rfl, rfl, h1, h2⟩

set_option maxHeartbeats 2000000 in
theorem rtake_held {a q : Nat} {u : Value} {l : List (Nat × ByteArray)} {b : ByteArray} {w : World} (h : Rnl w u l) (hd : Hd a l) (h1 : a + 1 ≤ q) (h2 : q < a + 17) (hq : (lk l q).isSome = true) (hqq : q < 4294967296) :
    Calls Tryz.prog 61 #[.agg #[.int .i64 ((a + 1 : Nat) : Int), u], .int .i64 (q : Int), .string b] w fun e w' => e = .returned (.tuple #[.agg #[.int .i64 ((a + 1 : Nat) : Int), u], .slice none 0 0, .int .i64 21]) ∧ Below w.heap.size w w' := by
  obtain ⟨i0, hi0, hk0⟩ : ∃ i0, i0 < l.length ∧ kAt l i0 = q := by
    obtain ⟨p, hp, e⟩ := lk_isSome.1 hq
    obtain ⟨i0, hi0, hp0⟩ := List.getElem_of_mem hp
    refine ⟨i0, hi0, ?_⟩
    have := congrArg Prod.fst (at_pair hi0)
    rw [hp0] at this
    rw [← e]
    exact this
  have hlt : ∀ j, j < i0 → kAt l j < q := fun j hj => by
    have := List.pairwise_iff_getElem.1 hd.srt j i0 (by omega) hi0 hj
    rw [← at_pair (by omega : j < l.length), ← at_pair hi0] at this
    rw [← hk0]
    exact this
  have HLT := hide1 hlt
  have HK0 := hide1 hk0
  clear hlt hk0 hq
  have hU := fun w' (hb : Below w.heap.size w w') => h.below hb (Nat.le_refl _)
  have HU := hide1 hU
  have hfu := h
  obtain ⟨ua, uc, rfl, _⟩ := h
  obtain ⟨n, hn⟩ : ∃ n, l.length = n := ⟨_, rfl⟩
  have HN := hide1 hn
  have hn15 : n ≤ 15 := by have := hd.len; omega
  rw [hn] at HU ⊢
  obtain ⟨A, hA⟩ : ∃ A, a + 1 = A := ⟨_, rfl⟩
  have HA := hide1 hA
  rw [hA]
  have g1 : ¬ (q : Int) < (A : Int) := by omega
  have g2 : ¬ (16 : Int) ≤ (q : Int) - (A : Int) := by omega
  have HD := hide1 hd
  clear hU hn hd hfu hA
  go_enter Tryz.func61, Tryz.ntmps61
  go_wp2_with fail
  have h2 := two_new w (.cells #[.int .i64 (A : Int), .slice ua n uc] 37) (.cells #[.int .i64 0, .slice none 0 0] 37)
  have hB := below2 (w := w) (.cells #[.int .i64 (A : Int), .slice ua n uc] 37) (.cells #[.int .i64 0, .slice none 0 0] 37)
  have hS2 : ((w.alloc (.cells #[.int .i64 (A : Int), .slice ua n uc] 37)).alloc (.cells #[.int .i64 0, .slice none 0 0] 37)).heap.size = w.heap.size + 2 := by simp
  have H2 := hide1 h2
  have HB := hide1 hB
  have HS2 := hide1 hS2
  clear h2 hB hS2
  generalize (w.alloc _).alloc _ = W1 at H2 HB HS2 ⊢
  obtain ⟨b0, hb0⟩ : ∃ b0, w.heap.size = b0 := ⟨_, rfl⟩
  obtain ⟨b1, hb1⟩ : ∃ b1, w.heap.size + 1 = b1 := ⟨_, rfl⟩
  have HX : Hid (w.heap.size = b0 ∧ w.heap.size + 1 = b1 ∧ W1.heap.size = w.heap.size + 2) := ⟨hb0, hb1, HS2.out⟩
  rw [hb1, hb0] at H2
  try rw [hb1]
  try rw [hb0]
  have hb3 : b0 + 1 = b1 := by omega
  try rw [hb3]
  clear hb0 hb1 HS2 hb3
  go_loopw [9, 10, 11] (fun v dn i wr => ∃ (j : Nat) (z : Value), j ≤ i0 ∧ i = .int .i64 (j : Int) ∧ dn = .bool false ∧ v = z ∧ Nls 175 W1.heap.size wr z (l.take j) ∧ Below W1.heap.size W1 wr) (fun _ _ i _ => n - (intOf i).toNat)
  case atStart => exact ⟨0, _, Nat.zero_le _, rfl, rfl, rfl, Nls.nil _ _ _, Below.refl _ _⟩
  case round =>
    obtain ⟨j, v, hj, rfl, rfl, hv, hL, hBr⟩ := hrel
    obtain rfl := hv.symm
    have HL := hide1 hL
    have HBr := hide1 hBr
    clear hL hBr hv
    have gin : (j : Int) < (n : Int) := by have := HN.out; omega
    by_cases hji : j = i0
    · subst hji
      obtain ⟨ua', uc', e1, h1⟩ := HU.out wr (HB.out.trans (HBr.out.mono (by have := HX.out; omega)))
      rw [HN.out] at e1
      cases e1
      have hjA : j < l.length := by have := HN.out; omega
      obtain ⟨gu, ou, rfl, k1, k2⟩ := h1 j hjA
      obtain ⟨m1, hm1⟩ : ∃ m, ou + j * 2 = m := ⟨_, rfl⟩
      rw [hm1] at k1 k2
      obtain ⟨d0, d1, _, _, _⟩ := box2 ((HBr.out.block b0 (lt_heap H2.out.1)).trans H2.out.1)
      obtain ⟨f0, f1, z0, z1, _⟩ := box2 ((HBr.out.block b1 (lt_heap H2.out.2)).trans H2.out.2)
      rw [HK0.out] at k1
      clear h1
      go_wp2
      exact ret_i3 Tryz.results61 b1 _ _ _ _ rfl rfl rfl (set_box2 ((HBr.out.block b1 (lt_heap H2.out.2)).trans H2.out.2)) rfl ⟨rfl, below_set2 (HB.out.trans (HBr.out.mono (by have := HX.out; omega))) (by have := HX.out; omega)⟩
    · have hjl : j < i0 := by omega
      obtain ⟨ua', uc', e1, h1⟩ := HU.out wr (HB.out.trans (HBr.out.mono (by have := HX.out; omega)))
      rw [HN.out] at e1
      cases e1
      have hjA : j < l.length := by have := HN.out; omega
      obtain ⟨gu, ou, rfl, k1, k2⟩ := h1 j hjA
      obtain ⟨m1, hm1⟩ : ∃ m, ou + j * 2 = m := ⟨_, rfl⟩
      rw [hm1] at k1 k2
      obtain ⟨d0, d1, _, _, _⟩ := box2 ((HBr.out.block b0 (lt_heap H2.out.1)).trans H2.out.1)
      obtain ⟨f0, f1, z0, z1, _⟩ := box2 ((HBr.out.block b1 (lt_heap H2.out.2)).trans H2.out.2)
      have hkq := HLT.out j hjl
      have htk := take_pair hjA
      have HTK := hide1 htk
      generalize kAt l j = k at *
      generalize sAt l j = t at *
      have gne : ¬ (k : Int) = (q : Int) := by omega
      have ggt : ¬ (q : Int) < (k : Int) := by omega
      have LC := hide1 (HL.out.below (below1 (.cells #[.int .u32 (k : Int), .string t] 175)) (Nat.le_refl _))
      have RC := hide1 (Rnl.one wr 175 k t)
      have HLE : Hid ((l.take j).length ≤ 1000000 ∧ W1.heap.size ≤ (wr.alloc (.cells #[.int .u32 (k : Int), .string t] 175)).heap.size) := by
        have h3 := HBr.out.size
        refine ⟨by rw [List.length_take]; have := HN.out; omega, ?_⟩
        simp
        omega
      clear h1 htk
      go_wp2_with (at_builtin; go_must (refine wpList_append_nls ntyR rfl _ _ rfl rfl rfl LC.out RC.out HLE.out.1 HLE.out.2 ?_); intro v2 WE ho hg hf; have HO := hide1 ho; have HG := hide1 hg; clear ho hg hf)
      go_roundw
      case rel =>
        refine ⟨j + 1, v2, by omega, by go_num, rfl, rfl, ?_, ?_⟩
        · rw [← HTK.out]
          exact HO.out
        · exact (HBr.out.alloc HBr.out.size _).grown HG.out HLE.out.2 (fun k hk => (HL.out.lt hk).1)
      case measure => simp [intOf]; omega

end Go.Proofs.YtcadlcpccemkbaaGreatDoor
