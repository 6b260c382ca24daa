/- A writer: pieces one behind the other. Regions that draw their order: what is held need not be held behind the last stores, where these wait for what is taken first. -/
import Derived.Test.YtcadlcpccemkbaaGreatDoorMRSWb
import Derived.Test.YtcadlcpccemkbaaGreatDoorMRaRbWa
import Derived.Deep.RegionHeld3
import Derived.Laws.CopyOwn
import Derived.Deep.Cut
import Derived.Deep.CutBlock
import Derived.Deep.DeepCutAuto
import Derived.Lib.EndianBits
namespace Go.Proofs.YtcadlcpccemkbaaGreatDoor.X
open Go.RowKit
set_option maxRecDepth 100000
attribute [local go_sem] not_any mf_any

def cat : List ByteArray → List Nat
  | [] => []
  | p :: ps => cat ps ++ nums p
theorem cat_lt : ∀ ps, Lt 256 (cat ps)
  | [] => fun x hx => by cases hx
  | p :: ps => (cat_lt ps).append (nums_all p)

/- pieces in memory, the last one first -/
def Pcs (w : World) (B : Nat) : List ByteArray → Option Addr → Prop
  | [], a => a = none
  | p :: ps, a => ∃ g b, a = some ⟨g, 0, none⟩ ∧ B ≤ g ∧ w.heap[g]? = some (.cells #[.pointer b, .string p, .int .i64 (((cat (p :: ps)).length : Nat) : Int)] 212 (0, 0)) ∧ (p.size ≠ 0 ∧ ∀ q, b = some q → q.block < g) ∧ Pcs w B ps b
theorem Pcs.keep {w w' : World} {B : Nat} (h : ∀ g, B ≤ g → g < w.heap.size → w'.heap[g]? = w.heap[g]?) : ∀ {ps a}, Pcs w B ps a → Pcs w' B ps a
  | [], _, hp => hp
  | _ :: _, _, ⟨g, b, h1, h2, h3, h5, h4⟩ => ⟨g, b, h1, h2, (h g h2 (lt_heap h3)).trans h3, h5, Pcs.keep h h4⟩
theorem Pcs.last {w : World} {B : Nat} : ∀ {ps a}, Pcs w B ps a → ∀ q, a = some q → q.block < w.heap.size
  | [], _, hp, q, hq => by rw [hp] at hq; cases hq
  | _ :: _, _, ⟨g, b, h1, h2, h3, _, _⟩, q, hq => by rw [h1] at hq; cases hq; exact lt_heap h3

def wrt (a : Option Addr) : Obj := .cells #[.pointer a] 200 (0, 0)
/- a writer that has written these bytes -/
def Wr (w : World) (g : Nat) (L : List Nat) : Prop := ∃ a ps, cat ps = L ∧ w.heap[g]? = some (wrt a) ∧ Pcs w (g + 1) ps a
theorem Wr.below {w w' : World} {g : Nat} {L : List Nat} (h : Wr w g L) (hb : Below w.heap.size w w') : Wr w' g L := by
  obtain ⟨a, ps, h1, h2, h3⟩ := h
  exact ⟨a, ps, h1, (hb.block g (lt_heap h2)).trans h2, h3.keep (fun k _ hk => hb.block k hk)⟩
theorem Wr.lt {w : World} {g : Nat} {L : List Nat} (h : Wr w g L) : Lt 256 L := by
  obtain ⟨a, ps, h1, h2, h3⟩ := h
  rw [← h1]
  exact cat_lt ps
theorem Wr.size {w : World} {g : Nat} {L : List Nat} (h : Wr w g L) : g < w.heap.size := by
  obtain ⟨a, ps, h1, h2, h3⟩ := h
  exact lt_heap h2
theorem Wr.new (w : World) : Wr (w.alloc (wrt none)) w.heap.size [] := ⟨none, [], rfl, heap_alloc_new _ _, rfl⟩

theorem conv_own {base n : Nat} {v : Value} {w : World} {l : List Nat} (hn : l.length = n) (h : w.ownsRow base 5 1 v n (u8s l)) :
    (convert 124 9 v).run Tryz.prog w = .ok (.string (txt l)) w := by
  obtain ⟨h1, ⟨rfl, hn0⟩ | ⟨g, cap, cur, rfl, _⟩⟩ := id h
  · have e : l = [] := List.length_eq_zero_iff.1 (by omega)
    rw [e]
    exact run_convert_bytes_nil (P := Tryz.prog) w 124 5 Tryz.underlying124 Tryz.underlying5 0 0 9 Tryz.underlying9
  · refine text_of hn (fun j x hj => ?_)
    have := h.cells (g := g) rfl j (.int .u8 (x : Int)) (by simp [u8s, hj])
    rwa [Addr.add_lit, Nat.zero_add] at this

theorem add_nothing (g : Nat) (w : World) : Calls Tryz.prog 116 #[.pointer (some ⟨g, 0, none⟩), .string ⟨#[]⟩] w fun e w' => e = .returned (.tuple #[]) ∧ w' = w := by
  go_enter Tryz.func116, Tryz.ntmps116
  go_wp2
  refine bodyPost_ret (results_none rfl _ _ _) rfl ?_
  exact ⟨rfl, rfl⟩

theorem ne_empty {t : ByteArray} (h : t.size ≠ 0) : t.toList.isEmpty = false := by
  rw [Lib.toList_data, List.isEmpty_eq_false_iff]
  intro e
  exact h (by rw [Lib.size_eq, e]; rfl)

set_option maxHeartbeats 1000000 in
theorem add_some (g : Nat) (w : World) (L : List Nat) (t : ByteArray) (h : Wr w g L) (ht : t.size ≠ 0) (hL : L.length + t.size ≤ 1099511627776) :
    Calls Tryz.prog 116 #[.pointer (some ⟨g, 0, none⟩), .string t] w fun e w' => e = .returned (.tuple #[]) ∧ Wr w' g (L ++ nums t) ∧ But g w w' := by
  obtain ⟨a, ps, rfl, hg, hp⟩ := h
  have ht' := ne_empty ht
  have c0 : w.cell? ⟨g, 0, none⟩ = some (.pointer a) := by rw [cell_of_row w g 0 _ _ _ hg]; rfl
  have f0 := frozen_of_row w g 0 _ _ hg
  have lt := lt_heap hg
  have HG := hide1 hg
  have HP := hide1 hp
  have hend : ∀ (E : Int) (o : Obj), o = .cells #[.pointer a, .string t, .int .i64 E] 212 (0, 0) → E = (((cat (t :: ps)).length : Nat) : Int) → Wr ((w.setCell ⟨g, 0, none⟩ (.pointer (some ⟨w.heap.size, 0, none⟩))).alloc o) g (cat ps ++ nums t) ∧ But g w ((w.setCell ⟨g, 0, none⟩ (.pointer (some ⟨w.heap.size, 0, none⟩))).alloc o) := by
    rintro E o rfl rfl
    have hz : (w.setCell ⟨g, 0, none⟩ (.pointer (some ⟨w.heap.size, 0, none⟩))).heap.size = w.heap.size := by simp
    refine ⟨⟨_, t :: ps, rfl, ?_, w.heap.size, a, rfl, by omega, ?_, ⟨ht, hp.last⟩, ?_⟩, ?_⟩
    · refine (Below.heap_alloc _ _ _ (by rw [hz]; exact lt)).trans ?_
      rw [heap_setCell_same _ g 0 _ _ _ hg]; rfl
    · have h9 := heap_alloc_new (w.setCell ⟨g, 0, none⟩ (.pointer (some ⟨w.heap.size, 0, none⟩))) (.cells #[.pointer a, .string t, .int .i64 (((cat (t :: ps)).length : Nat) : Int)] 212 (0, 0))
      rw [hz] at h9
      exact h9
    · exact hp.keep (fun k hk1 hk2 => (Below.heap_alloc _ _ _ (by rw [hz]; exact hk2)).trans (Below.heap_setCell _ _ _ _ (by simp; omega)))
    · exact (But.set g 0 w _).trans (But.of_below ((Below.refl _ _).alloc (Nat.le_refl _) _))
  have HE := hide1 hend
  clear hend hg hp
  match ps with
  | [] =>
    obtain rfl := HP.out
    go_enter Tryz.func116, Tryz.ntmps116
    go_wp2
    go_end0
    exact ⟨rfl, HE.out _ _ rfl (by simp [cat, nums_length])⟩
  | p :: ps =>
    obtain ⟨gp, b, rfl, hgp, hpc, _, hrest⟩ := HP.out
    have cp : w.cell? ⟨gp, 2, none⟩ = some (.int .i64 (((cat (p :: ps)).length : Nat) : Int)) := by rw [cell_of_row w gp 2 _ _ _ hpc]; rfl
    obtain ⟨z, hz⟩ : ∃ z, z = (cat (p :: ps)).length := ⟨_, rfl⟩
    rw [← hz] at cp hL
    have HZ : Shy (z = (cat (p :: ps)).length) := ⟨hz⟩
    clear hz hpc hrest HP
    go_enter Tryz.func116, Tryz.ntmps116
    go_wp2
    go_end0
    refine ⟨rfl, HE.out _ _ rfl ?_⟩
    rw [cat, List.length_append, ← HZ.out, nums_length, Int.natCast_add, Int.add_comm]

theorem add_any (g : Nat) (w : World) (L : List Nat) (t : ByteArray) (h : Wr w g L) (hL : L.length + t.size ≤ 1099511627776) :
    Calls Tryz.prog 116 #[.pointer (some ⟨g, 0, none⟩), .string t] w fun e w' => e = .returned (.tuple #[]) ∧ Wr w' g (L ++ nums t) ∧ But g w w' := by
  by_cases ht : t.size = 0
  · have hs : t = ⟨#[]⟩ := by
      apply ByteArray.ext
      exact Array.eq_empty_of_size_eq_zero ht
    subst hs
    refine (add_nothing g w).mono ?_
    rintro e w' ⟨rfl, rfl⟩
    exact ⟨rfl, by rw [nums_empty, List.append_nil]; exact h, But.refl _ _⟩
  · exact add_some g w L t h ht hL

theorem But.wr {w w' : World} {g : Nat} (h : But g w w') {w0 : World} {B : Nat} (hb : Below B w0 w) (hB : B ≤ g) (hs : B ≤ w.heap.size) : Below B w0 w' := h.below hb hB hs

set_option maxHeartbeats 1000000 in
theorem number_any (g : Nat) (w : World) (L : List Nat) (x n : Nat) (h : Wr w g L) (hL : L.length ≤ 1000000000) (hn : n ≤ 8) :
    Calls Tryz.prog 115 #[.pointer (some ⟨g, 0, none⟩), .int .u64 (x : Int), .int .i64 (n : Int)] w fun e w' => e = .returned (.tuple #[]) ∧ Wr w' g (L ++ fix x n) ∧ But g w w' := by
  have k1 := hide1 (appendNumber_any w.heap.size w (.slice none 0 0) 0 x n [] (World.ownsRow_nil _ _ _ _) rfl (Nat.le_refl _) hn (by omega))
  have HW := hide1 h
  clear h
  go_enter Tryz.func115, Tryz.ntmps115
  go_wp2_with fail
  refine k1.out.mono ?_
  rintro e w1 ⟨v', rfl, hrow, hb⟩
  rw [Nat.zero_add, List.nil_append] at hrow
  have hcv := conv_own (fix_length n x) hrow
  have hsz : (txt (fix x n)).size = n := by rw [txt_size (fix_lt n x), fix_length]
  have k2 := hide1 (add_any g w1 L (txt (fix x n)) (HW.out.below hb) (by omega))
  rw [nums_txt (fix_lt n x)] at k2
  obtain ⟨la, lc, rfl⟩ := row_form hrow
  have HB := hide1 hb
  clear hrow k1 hb hsz
  go_wp2_with (go_at_call 116; refine k2.out.mono ?_; rintro e w2 ⟨rfl, hw2, hbut⟩)
  go_end0
  exact ⟨rfl, hw2, (But.of_below HB.out).trans hbut⟩

end Go.Proofs.YtcadlcpccemkbaaGreatDoor.X

namespace Go.Proofs.YtcadlcpccemkbaaGreatDoor.X
open Go.RowKit

/- as wpAnyH, but behind an operation of F nothing of S is asked -/
def wpAnyF (P : Program) (md : Region.Mode) (ops : Array Oper) (Q : Exit → Act → World → Prop) (S : World → Prop) (F : List Nat) : Nat → Array Bool → Act → World → Prop
  | 0, listed, a, w => Region.ready md ops listed = [] ∧ Q .normal a w
  | fuel + 1, listed, a, w =>
    (Region.ready md ops listed = [] → Q .normal a w) ∧
    ∀ i ∈ Region.ready md ops listed, wpOp P ops Q i (fun a' w' => (i ∉ F → S w → S w') ∧ wpAnyF P md ops Q S F fuel (listed.setIfInBounds i true) a' w') a w

theorem wpAny_of_f {P : Program} {ops : Array Oper} {Q : Exit → Act → World → Prop} {md : Region.Mode} {S : World → Prop} {F : List Nat} : ∀ (fuel : Nat) (listed : Array Bool) (a : Act) (w : World), wpAnyF P md ops Q S F fuel listed a w → wpAny P md ops Q fuel listed a w
  | 0, _, _, _, h => h
  | fuel + 1, _, _, _, h => ⟨h.1, fun i hi => wpOp_mono (fun a' w' h' => wpAny_of_f fuel _ a' w' h'.2) (h.2 i hi)⟩

/- each of cs waits for i, or for another of cs -/
def waits (md : Region.Mode) (ops : Array Oper) (i : Nat) (cs : List Nat) : Bool :=
  cs.all fun c => match ops[c]? with
    | some o => o.after.any fun e => Region.binds md e && (e.on == i || cs.contains e.on)
    | none => false

theorem waits_spec {ops : Array Oper} {md : Region.Mode} {i : Nat} {cs : List Nat} (h : waits md ops i cs = true) {listed : Array Bool} (hi : listed.getD i true = false) (hc : ∀ c ∈ cs, listed.getD c true = false) {j : Nat} (hj : j ∈ Region.ready md ops listed) : j ∉ cs := by
  intro hjc
  have h1 := List.all_eq_true.1 h j hjc
  obtain ⟨_, oj, hoj, hall⟩ := mem_ready.1 hj
  rw [hoj] at h1
  obtain ⟨k, hk, h2⟩ := Array.any_eq_true.1 h1
  simp only [Bool.and_eq_true, Bool.or_eq_true, beq_iff_eq, List.contains_iff_mem] at h2
  have h3 := hall _ (Array.getElem_mem hk) h2.1
  have h4 : listed.getD (oj.after[k]).on true = false := by
    rcases h2.2 with h5 | h5
    · rw [h5]; exact hi
    · exact hc _ h5
  rcases Nat.lt_or_ge (oj.after[k]).on listed.size with h' | h'
  · simp [h'] at h3 h4
    rw [h3] at h4
    cases h4
  · simp [Array.getElem?_eq_none h'] at h3

/- an operation i may be taken first, if R (what its value hangs on) outlives whatever else may come up, as long as J holds of what has come up -/
theorem front {P : Program} {ops : Array Oper} {Q : Exit → Act → World → Prop} {md : Region.Mode} {S : World → Prop} {F : List Nat} {i : Nat} {oi : Oper} {v : Value} {R : World → Prop} {J : Array Bool → Prop} (hi : ops[i]? = some oi) (hsel : ∀ (j : Nat) (o : Oper) cs b, ops[j]? = some o → o.op ≠ .select cs b)
    (hQ : ∀ c a w, Q (.panic c) (a.put oi.dst v) w → Q (.panic c) a w)
    (hJ : ∀ listed j, J listed → i ∈ Region.ready md ops listed → j ∈ Region.ready md ops listed → j ≠ i → J (listed.setIfInBounds j true) ∧ (∃ oj, ops[j]? = some oj ∧ oi.apart ops oj = true) ∧ ∀ w w', (j ∉ F → S w → S w') → R w → R w') :
    ∀ (fuel : Nat) (listed : Array Bool) (a : Act) (w : World), J listed → i ∈ Region.ready md ops listed → YieldsIf P ops R oi v a → R w →
      wpAnyF P md ops Q S F fuel (listed.setIfInBounds i true) (a.put oi.dst v) w → wpAnyF P md ops Q S F (fuel + 1) listed a w
  | fuel, listed, a, w, hl, hr, hy, hR, H => by
    refine ⟨fun h0 => absurd hr (by rw [h0]; exact List.not_mem_nil), fun j hj => ?_⟩
    rcases Nat.decEq j i with hne | heq
    · obtain ⟨hl', ⟨oj, hoj, hap⟩, hkeep⟩ := hJ listed j hl hr hj hne
      have hj' : j ∈ Region.ready md ops (listed.setIfInBounds i true) := ready_mono hj hne
      match fuel, H with
      | 0, H => exact absurd hj' (by rw [H.1]; exact List.not_mem_nil)
      | fuel + 1, H =>
        have step := wpOp_putIf hoj hap (fun cs b => hsel i oi cs b hi) (fun cs b => hsel j oj cs b hoj) hQ hy (H.2 j hj')
        exact wpOp_mono (fun a' w' hs => ⟨hs.2.1, front hi hsel hQ hJ fuel _ a' w' hl' (ready_mono hr (Ne.symm hne)) hs.1 (hkeep w w' hs.2.1 hR) (by
          rw [Array.setIfInBounds_comm _ _ hne]
          exact hs.2.2)⟩) step
    · subst heq
      exact hy.wpOp hi hR ⟨fun _ h => h, H⟩

/- what has not come up and does not wait for i is apart from it -/
def Clear (md : Region.Mode) (ops : Array Oper) (i : Nat) (oi : Oper) (listed : Array Bool) : Prop :=
  ∀ j oj, ops[j]? = some oj → j ≠ i → listed.getD j true = false → (∀ e ∈ oj.after, Region.binds md e = true → e.on ≠ i) → oi.apart ops oj = true

theorem Clear.next {md : Region.Mode} {ops : Array Oper} {i : Nat} {oi : Oper} {listed : Array Bool} (h : Clear md ops i oi listed) (hr : i ∈ Region.ready md ops listed) {j : Nat} (hj : j ∈ Region.ready md ops listed) (hne : j ≠ i) :
    Clear md ops i oi (listed.setIfInBounds j true) ∧ ∃ oj, ops[j]? = some oj ∧ oi.apart ops oj = true := by
  obtain ⟨hun, oj, hoj, hall⟩ := mem_ready.1 hj
  refine ⟨fun k ok hk hki hku hno => h k ok hk hki ?_ hno, oj, hoj, h j oj hoj hne hun fun e he hb heq => ?_⟩
  · by_cases hjk : j = k
    · rw [← hjk]; exact hun
    · rw [getD_set_ne true hjk] at hku; exact hku
  · have up := hall e he hb
    have down := (mem_ready.1 hr).1
    rw [heq] at up
    by_cases hsz : i < listed.size
    · simp [hsz] at up down
      rw [down] at up
      cases up
    · simp [Array.getElem?_eq_none (Nat.le_of_not_lt hsz)] at up

def unlisted (listed : Array Bool) (cs : List Nat) : Bool := cs.all fun c => listed.getD c true == false

/- an operation that may come first, its slot named; cs: what waits for it, F among them -/
theorem take_f {P : Program} {ops : Array Oper} {Q : Exit → Act → World → Prop} {md : Region.Mode} {S : World → Prop} {F : List Nat} (i d : Nat) (v : Value) (cs : List Nat) {oi : Oper} {fuel : Nat} {listed : Array Bool} {tmps : Array Value} {ds : List Deferred} {w : World} (hi : ops[i]? = some oi) (hd : oi.dst = some d)
    (hs : Region.noSelect ops = true) (hf : Region.free md ops listed i = true) (hr : (Region.ready md ops listed).contains i = true) (hcs : waits md ops i cs = true) (hF : F.all (cs.contains ·) = true) (hu : unlisted listed cs = true)
    (hQ : ∀ c a w, Q (.panic c) (a.put oi.dst v) w → Q (.panic c) a w) (hw : Region.wanted oi (yielded ops tmps) = true) (hy : ∀ w, S w → (execOp (Act.eval ⟨tmps, ds⟩) oi).run P w = .ok (.value v) w) (hS : S w)
    (h : wpAnyF P md ops Q S F fuel (listed.setIfInBounds i true) ⟨tmps.setIfInBounds d v, ds⟩ w) : wpAnyF P md ops Q S F (fuel + 1) listed ⟨tmps, ds⟩ w :=
  front (R := S) (J := fun L => Clear md ops i oi L ∧ ∀ c ∈ cs, L.getD c true = false) hi (Region.noSelect_spec hs) hQ
    (fun L j hL hri hrj hne => by
      obtain ⟨h1, h2⟩ := hL.1.next hri hrj hne
      have hjc : j ∉ cs := waits_spec hcs (mem_ready.1 hri).1 hL.2 hrj
      refine ⟨⟨h1, fun c hc => ?_⟩, h2, fun _ _ hk hw => hk (fun hf => hjc (by simpa using List.all_eq_true.1 hF j hf)) hw⟩
      have hjk : j ≠ c := fun hjk => hjc (by rw [hjk]; exact hc)
      rw [getD_set_ne true hjk]
      exact hL.2 c hc)
    fuel listed _ w ⟨Region.free_spec hi hf, fun c hc => by simpa using List.all_eq_true.1 hu c hc⟩ (by simpa using hr) (Or.inl ⟨hw, hy⟩) hS (by rw [hd]; exact h)

/- an operation whose value hangs on no world may come first, whatever F is -/
theorem take_p {P : Program} {ops : Array Oper} {Q : Exit → Act → World → Prop} {md : Region.Mode} {S : World → Prop} {F : List Nat} (i d : Nat) (v : Value) {oi : Oper} {fuel : Nat} {listed : Array Bool} {tmps : Array Value} {ds : List Deferred} {w : World} (hi : ops[i]? = some oi) (hd : oi.dst = some d)
    (hs : Region.noSelect ops = true) (hf : Region.free md ops listed i = true) (hr : (Region.ready md ops listed).contains i = true)
    (hQ : ∀ c a w, Q (.panic c) (a.put oi.dst v) w → Q (.panic c) a w) (hw : Region.wanted oi (yielded ops tmps) = true) (hy : ∀ w, (execOp (Act.eval ⟨tmps, ds⟩) oi).run P w = .ok (.value v) w)
    (h : wpAnyF P md ops Q S F fuel (listed.setIfInBounds i true) ⟨tmps.setIfInBounds d v, ds⟩ w) : wpAnyF P md ops Q S F (fuel + 1) listed ⟨tmps, ds⟩ w :=
  front (R := fun _ => True) (J := Clear md ops i oi) hi (Region.noSelect_spec hs) hQ
    (fun L j hL hri hrj hne => ⟨(hL.next hri hrj hne).1, (hL.next hri hrj hne).2, fun _ _ _ _ => trivial⟩)
    fuel listed _ w (Region.free_spec hi hf) (by simpa using hr) (Or.inl ⟨hw, fun w _ => hy w⟩) trivial (by rw [hd]; exact h)

/- one alone may come up -/
theorem ready_f {P : Program} {ops : Array Oper} {Q : Exit → Act → World → Prop} {md : Region.Mode} {S : World → Prop} {F : List Nat} (i : Nat) {o : Oper} {fuel : Nat} {listed : Array Bool} {a : Act} {w : World} (hr : Region.ready md ops listed = [i]) (ho : ops[i]? = some o)
    (h : ∀ K : Act → World → Prop, Shut (∀ a' w', (i ∉ F → S w → S w') → wpAnyF P md ops Q S F fuel (listed.setIfInBounds i true) a' w' → K a' w') → if Region.wanted o (yielded ops a.tmps) = true then Oper.wp P o a w K Q else K (a.put o.dst undef) w) :
    wpAnyF P md ops Q S F (fuel + 1) listed a w := by
  refine ⟨fun h0 => (by rw [hr] at h0; cases h0), ?_⟩
  intro j hj
  rw [hr] at hj
  have hji : j = i := by simpa using hj
  rw [hji]
  exact wpOp_step ho (fun K hK => h K (fun a w hS hW => hK a w ⟨hS, hW⟩))

theorem ready2_f {P : Program} {ops : Array Oper} {Q : Exit → Act → World → Prop} {md : Region.Mode} {S : World → Prop} {F : List Nat} (i j : Nat) {o o' : Oper} {fuel : Nat} {listed : Array Bool} {a : Act} {w : World} (hr : Region.ready md ops listed = [i, j]) (ho : ops[i]? = some o) (ho' : ops[j]? = some o')
    (h : ∀ K : Act → World → Prop, Shut (∀ a' w', (i ∉ F → S w → S w') → wpAnyF P md ops Q S F fuel (listed.setIfInBounds i true) a' w' → K a' w') → if Region.wanted o (yielded ops a.tmps) = true then Oper.wp P o a w K Q else K (a.put o.dst undef) w)
    (h' : ∀ K : Act → World → Prop, Shut (∀ a' w', (j ∉ F → S w → S w') → wpAnyF P md ops Q S F fuel (listed.setIfInBounds j true) a' w' → K a' w') → if Region.wanted o' (yielded ops a.tmps) = true then Oper.wp P o' a w K Q else K (a.put o'.dst undef) w) :
    wpAnyF P md ops Q S F (fuel + 1) listed a w := by
  refine ⟨fun h0 => (by rw [hr] at h0; cases h0), ?_⟩
  intro k hk
  rw [hr] at hk
  rcases List.mem_cons.1 hk with e | hk
  · rw [e]
    exact wpOp_step ho (fun K hK => h K (fun a w hS hW => hK a w ⟨hS, hW⟩))
  · have e : k = j := by simpa using hk
    rw [e]
    exact wpOp_step ho' (fun K hK => h' K (fun a w hS hW => hK a w ⟨hS, hW⟩))

theorem done_f {P : Program} {ops : Array Oper} {Q : Exit → Act → World → Prop} {md : Region.Mode} {S : World → Prop} {F : List Nat} {listed : Array Bool} {a : Act} {w : World} (hr : Region.ready md ops listed = []) (h : Q .normal a w) :
    ∀ fuel, wpAnyF P md ops Q S F fuel listed a w
  | 0 => ⟨hr, h⟩
  | _ + 1 => ⟨fun _ => h, by rw [hr]; simp⟩

theorem region_f {P : Program} {ops : Array Oper} {Q : Exit → Act → World → Prop} {S : World → Prop} {F : List Nat} {id : Nat} {a : Act} {w : World} (hm : P.follows .mixedOrders = true) (hS : S w.drew)
    (h : S w.drew → wpAnyF P .any ops Q S F ops.size (Array.replicate ops.size false) a w.drew) : (Code.region id ops true).wp P Q a w :=
  wp_region_any hm (wpAny_of_f _ _ _ _ (h hS))

end Go.Proofs.YtcadlcpccemkbaaGreatDoor.X
