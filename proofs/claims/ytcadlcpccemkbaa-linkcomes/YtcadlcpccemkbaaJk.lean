/- Take, whatever comes. -/
import Derived.Test.YtcadlcpccemkbaaJr
namespace Go.Proofs.Ytcadlcpccemkbaa
open Go.RowKit
set_option maxRecDepth 100000
attribute [local go_sem] not_any

theorem Mp.mono {w : World} {m : Value} {n n' : Nat} {f : Nat → Option ByteArray} (h : Mp w m n f) (hn : n ≤ n') : Mp w m n' f := by
  rcases h with h | ⟨b, rfl, D, h1, h2⟩
  · exact .inl h
  · exact .inr ⟨b, rfl, D, h1.mono hn, h2⟩
theorem Inm.mono {Y : IX} {s a n n' : Nat} {m : Value} {f : Nat → Option ByteArray} {w : World} (h : Inm Y s m a n f w) (hn : n ≤ n') : Inm Y s m a n' f w := ⟨h.row, h.mp.mono hn, h.ne⟩

/- what Take tells, what is held behind it, the last number that was told -/
def tkO (a : Nat) (l : List (Nat × ByteArray)) (q : Nat) (b : ByteArray) : List ByteArray := if chkC a (lk l) q = 0 then stO (a + 1) (ins q b l) else []
def tkR (a : Nat) (l : List (Nat × ByteArray)) (q : Nat) (b : ByteArray) : List (Nat × ByteArray) := if chkC a (lk l) q = 0 then stR (a + 1) (ins q b l) else l
def tkA (a : Nat) (l : List (Nat × ByteArray)) (q : Nat) (b : ByteArray) : Nat := a + (tkO a l q b).length

theorem chk_ok {a q : Nat} {l : List (Nat × ByteArray)} (h : chkC a (lk l) q = 0) : a + 1 ≤ q ∧ q < a + 17 ∧ ∀ p ∈ l, p.1 ≠ q := by
  unfold chkC at h
  split at h
  · cases h
  · rename_i h1
    split at h
    · cases h
    · refine ⟨by omega, by omega, lk_none ?_⟩
      cases e : lk l q with
      | none => rfl
      | some t =>
        rw [e] at h1
        exact absurd (.inr rfl) h1

/- what an In keeps to -/
structure Hd (a : Nat) (l : List (Nat × ByteArray)) : Prop where
  srt : Srt l
  low : Low (a + 2) l
  upto : Upto (a + 17) l
theorem Hd.none (a : Nat) : Hd a [] := ⟨by simp [Srt], by simp [Low], by simp [Upto]⟩
theorem Hd.low1 {a : Nat} {l : List (Nat × ByteArray)} (h : Hd a l) : Low (a + 1) l := fun p hp => by have := h.low p hp; omega
theorem Hd.take {a q : Nat} {l : List (Nat × ByteArray)} {b : ByteArray} (h : Hd a l) : Hd (tkA a l q b) (tkR a l q b) := by
  unfold tkA tkR tkO
  by_cases hc : chkC a (lk l) q = 0
  · rw [if_pos hc, if_pos hc]
    obtain ⟨h1, h2, h3⟩ := chk_ok hc
    have hs := srt_ins (s := b) h.srt h3
    have hl := low_stR hs (low_ins h.low1 h1)
    refine ⟨srt_stR hs, ?_, fun p hp => ?_⟩
    · rw [show a + (stO (a + 1) (ins q b l)).length + 2 = a + 1 + (stO (a + 1) (ins q b l)).length + 1 by omega]
      exact hl
    · have := upto_ins (s := b) h.upto h2 p (stR_sub hp)
      omega
  · rw [if_neg hc, if_neg hc]
    exact h
theorem pig : ∀ {l : List (Nat × ByteArray)} {lo hi : Nat}, Srt l → Low lo l → Upto hi l → lo ≤ hi → l.length ≤ hi - lo
  | [], _, _, _, _, _, _ => by simp
  | p :: l, lo, hi, h, h1, h2, _ => by
    have e1 := h1 p (by simp)
    have e2 := h2 p (by simp)
    have := pig (srt_tail h) (low_tail h) (fun q hq => h2 q (by simp [hq])) (by omega)
    simp only [List.length_cons]
    omega
theorem Hd.len {a : Nat} {l : List (Nat × ByteArray)} (h : Hd a l) : l.length ≤ 15 := by
  have := pig h.srt h.low h.upto (by omega)
  omega
theorem tkO_len {a q : Nat} {l : List (Nat × ByteArray)} {b : ByteArray} (h : Hd a l) : (tkO a l q b).length ≤ 16 := by
  unfold tkO
  split
  · have h1 := stO_le (n := a + 1) (l := ins q b l)
    have h2 := h.len
    rw [ins_length] at h1
    omega
  · simp

theorem take_fail {Y : IX} {s a n : Nat} {m : Value} {l : List (Nat × ByteArray)} {w : World} (h : Inm Y s m a n (lk l) w) (ha : a + 1 < 4294967296) (q : Nat) (hq : q < 4294967296) (b : ByteArray) (hc : chkC a (lk l) q ≠ 0) :
    Calls Try.prog 57 #[.pointer (some ⟨s, 6, none⟩), .int .u32 (q : Int), .string b] w fun e w' => e = .returned (.tuple #[.slice none 0 0, .int .i64 (chkC a (lk l) q)]) ∧ Below w.heap.size w w' := by
  have k := hide1 (check_any h ha q hq)
  have hcb : ((chkC a (lk l) q : Int) != 0) = true := by simp; omega
  generalize chkC a (lk l) q = c at *
  clear h hc
  go_enter Try.func57, Try.ntmps57
  go_wp2_with (go_at_call 63; refine k.out.mono ?_; rintro e w1 ⟨rfl, hb⟩)
  exact ret_t2 Try.results57 rfl rfl rfl ⟨rfl, hb⟩

set_option maxHeartbeats 2000000 in
theorem take_ok {Y : IX} {s a n : Nat} {m : Value} {l : List (Nat × ByteArray)} {w : World} (h : Inm Y s m a n (lk l) w) (hd : Hd a l) (ha : a + 100 < 4294967296) (q : Nat) (hq : q < 4294967296) (b : ByteArray) (hb : b.size ≤ 281474976710656) (hn : n < 1000000) (hc : chkC a (lk l) q = 0) :
    Calls Try.prog 57 #[.pointer (some ⟨s, 6, none⟩), .int .u32 (q : Int), .string b] w fun e w' => ∃ v m', e = .returned (.tuple #[v, .int .i64 0]) ∧ Lst w.heap.size w' v (stO (a + 1) (ins q b l)) ∧ Inm Y s m' (a + (stO (a + 1) (ins q b l)).length) (n + 1) (lk (stR (a + 1) (ins q b l))) w' ∧ Kp (Inf s m) w w' ∧ (∀ g, mblk m' = some g → mblk m = some g ∨ w.heap.size ≤ g) := by
  have k := hide1 (check_any h (by omega) q hq)
  have kN := fun w => hide1 (numbered_any q b w hb)
  rw [hc] at k
  have HC := hide1 (chk_ok hc)
  have HQ := hide1 hq
  have HN := hide1 hn
  have HX : Hid (Srt (ins q b l) ∧ Low (a + 1) (ins q b l) ∧ Upto 4294967295 (ins q b l) ∧ (ins q b l).length ≤ 1000 ∧ a + 1 < 4294967296) := by
    obtain ⟨h1, h2, h3⟩ := HC.out
    refine ⟨srt_ins hd.srt h3, low_ins hd.low1 h1, fun p hp => ?_, ?_, by omega⟩
    · have := upto_ins (s := b) hd.upto h2 p hp
      omega
    · have := hd.len
      rw [ins_length]
      omega
  have H := hide1 h
  rcases h.mp with ⟨rfl, h0⟩ | ⟨g, rfl, _⟩
  · have H0 := hide1 h0
    clear h hd hc hq hn hb h0
    have qT : ∀ (w : World) (r : Option Nat), (binOp .eql 50 (.map r) (.map none)).run Try.prog w = .ok (.bool r.isNone) w := fun w r => run_eql_map_nil w _ _ _ r Try.underlying50
    go_enter Try.func57, Try.ntmps57
    go_wp2_with fail
    refine k.out.mono ?_
    rintro e W0 ⟨rfl, hb0⟩
    have I0 := hide1 (H.out.below hb0 (Nat.le_refl _))
    have B0 := hide1 hb0
    obtain ⟨c0, c1, f0, f1, _⟩ := boxI I0.out.row
    have hmm := @run_makeMap Try.prog
    obtain ⟨g, hg⟩ : ∃ g, W0.heap.size = g := ⟨_, rfl⟩
    have HG := hide1 hg
    have e1 : (W0.alloc (.map #[] 0)).cell? ⟨s, 7, none⟩ = some (.map none) := ((below1 _).cell (p := ⟨s, 7, none⟩) (lt_heap I0.out.row)).trans c1
    have e2 : (W0.alloc (.map #[] 0)).frozen? ⟨s, 7, none⟩ = false := ((below1 _).frozen (p := ⟨s, 7, none⟩) (lt_heap I0.out.row)).trans f1
    clear hb0 k hg
    go_upto_region 6 with (fail)
    have hsz : (W0.setCell ⟨s, 7, none⟩ (.map (some g))).heap.size = g := by rw [← HG.out]; simp [World.setCell]
    have r0 : (W0.setCell ⟨s, 7, none⟩ (.map (some g))).heap[s]? = some (.cells #[Y.c0, Y.c1, Y.c2, Y.c3, Y.c4, Y.c5, .int .u32 (a : Int), .map (some g), Y.c8] 54 (0, 0)) := by
      rw [heap_setCell_same _ s 7 _ _ _ I0.out.row]
      rfl
    have KA0 : Hid (Kp (Inf s (.map none)) w ((W0.setCell ⟨s, 7, none⟩ (.map (some g))).alloc (.map #[] 0))) := ((Kp.ofBelow B0.out).trans (Kp.setCell _ _ _ _ (.inl rfl))).trans (Kp.ofBelow (below1 _))
    have IA : Hid (Inm Y s (.map (some g)) a n (lk l) ((W0.setCell ⟨s, 7, none⟩ (.map (some g))).alloc (.map #[] 0))) := by
      have hl : lk l = fun _ => none := funext H0.out
      have hm : Hm ((W0.setCell ⟨s, 7, none⟩ (.map (some g))).alloc (.map #[] 0)) g n (fun _ => none) := by
        obtain ⟨D, h1, h2⟩ := Hm.made (W0.setCell ⟨s, 7, none⟩ (.map (some g)))
        rw [hsz] at h1
        exact ⟨D, h1.mono (Nat.zero_le _), h2⟩
      rw [hl]
      refine ⟨(Below.heap_alloc _ _ _ (lt_heap r0)).trans r0, .inr ⟨g, rfl, hm⟩, fun e => ?_⟩
      have e' : g = s := by cases e; rfl
      have := lt_heap I0.out.row
      have := HG.out
      omega
    have HGW : Hid (w.heap.size ≤ g) := by have := B0.out.size; have := HG.out; unfold Hid; omega
    rw [HG.out]
    generalize (W0.setCell ⟨s, 7, none⟩ (.map (some g))).alloc (.map #[] 0) = WA at IA KA0 ⊢
    clear hsz r0
    clear hmm e1 e2 c0 c1 f0 f1 I0 B0 HG
    refine region_f (F := [8]) (S := fun W => W.cell? ⟨s, 7, none⟩ = some (.map (some g)) ∧ s < W.heap.size) (by kernel_rfl) ⟨(boxI IA.out.row).2.1, lt_heap IA.out.row⟩ (fun hS => ?_)
    generalize hU : World.drew WA = U at hS ⊢
    have bU : Hid (Below WA.heap.size WA U) := by rw [← hU]; exact (Below.refl _ _).drew
    clear hU
    refine take_p 0 24 (.pointer (some ⟨s, 6, none⟩)) rfl rfl (by kernel_rfl) (by kernel_rfl) (by kernel_rfl) (fun _ _ _ h => h) rfl (fun w => by go_simp) ?_
    try simp only [List.setIfInBounds_toArray, List.set_cons_zero, List.set_cons_succ]
    refine take_p 1 25 (.pointer (some ⟨s, 6, none⟩)) rfl rfl (by kernel_rfl) (by kernel_rfl) (by kernel_rfl) (fun _ _ _ h => h) rfl (fun w => by go_simp) ?_
    try simp only [List.setIfInBounds_toArray, List.set_cons_zero, List.set_cons_succ]
    refine take_p 2 26 (.pointer (some ⟨s, 7, none⟩)) rfl rfl (by kernel_rfl) (by kernel_rfl) (by kernel_rfl) (fun _ _ _ h => h) rfl (fun w => by go_simp) ?_
    try simp only [List.setIfInBounds_toArray, List.set_cons_zero, List.set_cons_succ]
    refine take_f 3 27 (.map (some g)) [8] rfl rfl (by kernel_rfl) (by kernel_rfl) (by kernel_rfl) (by kernel_rfl) (by kernel_rfl) (by kernel_rfl) (fun _ _ _ h => h) rfl (fun w hSw => by obtain ⟨c0, c1⟩ := hSw; go_simp) hS ?_
    try simp only [List.setIfInBounds_toArray, List.set_cons_zero, List.set_cons_succ]
    refine take_p 4 28 (.int .u32 (q : Int)) rfl rfl (by kernel_rfl) (by kernel_rfl) (by kernel_rfl) (fun _ _ _ h => h) rfl (fun w => by go_simp) ?_
    try simp only [List.setIfInBounds_toArray, List.set_cons_zero, List.set_cons_succ]
    refine take_p 5 29 (.int .u32 (q : Int)) rfl rfl (by kernel_rfl) (by kernel_rfl) (by kernel_rfl) (fun _ _ _ h => h) rfl (fun w => by go_simp) ?_
    try simp only [List.setIfInBounds_toArray, List.set_cons_zero, List.set_cons_succ]
    refine take_p 6 30 (.string b) rfl rfl (by kernel_rfl) (by kernel_rfl) (by kernel_rfl) (fun _ _ _ h => h) rfl (fun w => by go_simp) ?_
    try simp only [List.setIfInBounds_toArray, List.set_cons_zero, List.set_cons_succ]
    refine ready_f 7 (o := { dst := some 31, op := Op.call { callee := Callee.value (Operand.func 39), args := #[Operand.tmp 29, Operand.tmp 30], argTypes := #[28, 9] }, type := 83, pos := "window.go:109", after := #[{ on := 5, ground := Ground.data }, { on := 6, ground := Ground.data }], guard := none }) (by kernel_rfl) rfl (fun K hK => ?_)
    go_simp
    refine (kN _).out.mono ?_
    rintro e W1 ⟨rfl, hb1⟩
    refine hK.out _ _ (fun _ h => ⟨(hb1.cell (p := ⟨s, _, none⟩) h.2).trans h.1, Nat.lt_of_lt_of_le h.2 hb1.size⟩) ?_
    clear hK K
    try simp only [Act.put, List.setIfInBounds_toArray, List.set_cons_zero, List.set_cons_succ]
    have b1 : Hid (Below WA.heap.size WA W1) := bU.out.trans (hb1.mono bU.out.size)
    have I1 := hide1 (IA.out.below b1.out (Nat.le_refl _))
    have hHm : Hm W1 g n (lk l) := by
      rcases I1.out.mp with ⟨h0, _⟩ | ⟨g', h0, h1⟩
      · cases h0
      · cases h0; exact h1
    clear hb1 bU hS
    refine ready_f 8 (o := { dst := none, op := Op.mapUpdate 50 (Operand.tmp 27) (Operand.tmp 28) (Operand.tmp 31), type := 0, pos := "window.go:109", after := #[{ on := 3, ground := Ground.data }, { on := 4, ground := Ground.data }, { on := 7, ground := Ground.data }, { on := 7, ground := Ground.chain }, { on := 0, ground := Ground.phase }, { on := 1, ground := Ground.phase }, { on := 2, ground := Ground.phase }, { on := 3, ground := Ground.phase }, { on := 4, ground := Ground.phase }, { on := 5, ground := Ground.phase }, { on := 6, ground := Ground.phase }, { on := 7, ground := Ground.phase }], guard := none }) (by kernel_rfl) rfl (fun K hK => ?_)
    rw [if_pos (by rfl)]
    refine wp_update _ _ _ rfl rfl rfl rfl hHm HQ.out HN.out ?_
    intro W2 h2 hg2
    refine hK.out _ _ (fun h => absurd (by decide) h) ?_
    clear hK K
    refine done_f (by kernel_rfl) ?_ _
    have hgs : g ≠ s := fun e => I1.out.ne (by rw [e]; rfl)
    have I2 : Hid (Inm Y s (.map (some g)) a (n + 1) (lk (ins q b l)) W2) := ⟨(hg2.block s (lt_heap I1.out.row) (fun e => hgs (by cases e; rfl))).trans I1.out.row, .inr ⟨g, rfl, by rw [lk_ins HC.out.2.2]; exact h2⟩, I1.out.ne⟩
    have K2 : Hid (Kp (Inf s (.map (some g))) WA W2) := (Kp.ofBelow b1.out).trans ((Kp.ofGrown hg2).mono fun k e => .inr e)
    clear hHm h2 hg2 b1 I1 hgs kN
    have kR := hide1 (release_any I2.out HX.out.1 HX.out.2.1 HX.out.2.2.1 HX.out.2.2.2.1 HX.out.2.2.2.2)
    go_wp2_with (go_at_call 64; refine kR.out.mono ?_; rintro e W3 ⟨v, rfl, hL3, hI3, hK3⟩)
    refine ret_t2 Try.results57 rfl rfl rfl ⟨v, .map (some g), rfl, hL3.mono ?_, hI3, ?_, fun k hk => .inr (by cases hk; exact HGW.out)⟩
    · have := KA0.out.size
      have := K2.out.size
      omega
    · refine (KA0.out.join K2.out fun k hk => ?_).join hK3 fun k hk => ?_
      · rcases hk with hk | hk
        · exact .inl (.inl hk)
        · cases hk
          exact .inr HGW.out
      · rcases hk with hk | hk
        · exact .inl (.inl hk)
        · cases hk
          exact .inr HGW.out
  · clear h hd hc hq hn hb
    have qT : ∀ (w : World) (r : Option Nat), (binOp .eql 50 (.map r) (.map none)).run Try.prog w = .ok (.bool r.isNone) w := fun w r => run_eql_map_nil w _ _ _ r Try.underlying50
    go_enter Try.func57, Try.ntmps57
    go_wp2_with fail
    refine k.out.mono ?_
    rintro e WA ⟨rfl, hb0⟩
    have IA := hide1 (H.out.below hb0 (Nat.le_refl _))
    have B0 := hide1 hb0
    obtain ⟨c0, c1, f0, f1, _⟩ := boxI IA.out.row
    clear hb0 k
    go_upto_region 6 with (fail)
    clear c0 c1 f0 f1
    refine region_f (F := [8]) (S := fun W => W.cell? ⟨s, 7, none⟩ = some (.map (some g)) ∧ s < W.heap.size) (by kernel_rfl) ⟨(boxI IA.out.row).2.1, lt_heap IA.out.row⟩ (fun hS => ?_)
    generalize hU : World.drew WA = U at hS ⊢
    have bU : Hid (Below WA.heap.size WA U) := by rw [← hU]; exact (Below.refl _ _).drew
    clear hU
    refine take_p 0 24 (.pointer (some ⟨s, 6, none⟩)) rfl rfl (by kernel_rfl) (by kernel_rfl) (by kernel_rfl) (fun _ _ _ h => h) rfl (fun w => by go_simp) ?_
    try simp only [List.setIfInBounds_toArray, List.set_cons_zero, List.set_cons_succ]
    refine take_p 1 25 (.pointer (some ⟨s, 6, none⟩)) rfl rfl (by kernel_rfl) (by kernel_rfl) (by kernel_rfl) (fun _ _ _ h => h) rfl (fun w => by go_simp) ?_
    try simp only [List.setIfInBounds_toArray, List.set_cons_zero, List.set_cons_succ]
    refine take_p 2 26 (.pointer (some ⟨s, 7, none⟩)) rfl rfl (by kernel_rfl) (by kernel_rfl) (by kernel_rfl) (fun _ _ _ h => h) rfl (fun w => by go_simp) ?_
    try simp only [List.setIfInBounds_toArray, List.set_cons_zero, List.set_cons_succ]
    refine take_f 3 27 (.map (some g)) [8] rfl rfl (by kernel_rfl) (by kernel_rfl) (by kernel_rfl) (by kernel_rfl) (by kernel_rfl) (by kernel_rfl) (fun _ _ _ h => h) rfl (fun w hSw => by obtain ⟨c0, c1⟩ := hSw; go_simp) hS ?_
    try simp only [List.setIfInBounds_toArray, List.set_cons_zero, List.set_cons_succ]
    refine take_p 4 28 (.int .u32 (q : Int)) rfl rfl (by kernel_rfl) (by kernel_rfl) (by kernel_rfl) (fun _ _ _ h => h) rfl (fun w => by go_simp) ?_
    try simp only [List.setIfInBounds_toArray, List.set_cons_zero, List.set_cons_succ]
    refine take_p 5 29 (.int .u32 (q : Int)) rfl rfl (by kernel_rfl) (by kernel_rfl) (by kernel_rfl) (fun _ _ _ h => h) rfl (fun w => by go_simp) ?_
    try simp only [List.setIfInBounds_toArray, List.set_cons_zero, List.set_cons_succ]
    refine take_p 6 30 (.string b) rfl rfl (by kernel_rfl) (by kernel_rfl) (by kernel_rfl) (fun _ _ _ h => h) rfl (fun w => by go_simp) ?_
    try simp only [List.setIfInBounds_toArray, List.set_cons_zero, List.set_cons_succ]
    refine ready_f 7 (o := { dst := some 31, op := Op.call { callee := Callee.value (Operand.func 39), args := #[Operand.tmp 29, Operand.tmp 30], argTypes := #[28, 9] }, type := 83, pos := "window.go:109", after := #[{ on := 5, ground := Ground.data }, { on := 6, ground := Ground.data }], guard := none }) (by kernel_rfl) rfl (fun K hK => ?_)
    go_simp
    refine (kN _).out.mono ?_
    rintro e W1 ⟨rfl, hb1⟩
    refine hK.out _ _ (fun _ h => ⟨(hb1.cell (p := ⟨s, _, none⟩) h.2).trans h.1, Nat.lt_of_lt_of_le h.2 hb1.size⟩) ?_
    clear hK K
    try simp only [Act.put, List.setIfInBounds_toArray, List.set_cons_zero, List.set_cons_succ]
    have b1 : Hid (Below WA.heap.size WA W1) := bU.out.trans (hb1.mono bU.out.size)
    have I1 := hide1 (IA.out.below b1.out (Nat.le_refl _))
    have hHm : Hm W1 g n (lk l) := by
      rcases I1.out.mp with ⟨h0, _⟩ | ⟨g', h0, h1⟩
      · cases h0
      · cases h0; exact h1
    clear hb1 bU hS
    refine ready_f 8 (o := { dst := none, op := Op.mapUpdate 50 (Operand.tmp 27) (Operand.tmp 28) (Operand.tmp 31), type := 0, pos := "window.go:109", after := #[{ on := 3, ground := Ground.data }, { on := 4, ground := Ground.data }, { on := 7, ground := Ground.data }, { on := 7, ground := Ground.chain }, { on := 0, ground := Ground.phase }, { on := 1, ground := Ground.phase }, { on := 2, ground := Ground.phase }, { on := 3, ground := Ground.phase }, { on := 4, ground := Ground.phase }, { on := 5, ground := Ground.phase }, { on := 6, ground := Ground.phase }, { on := 7, ground := Ground.phase }], guard := none }) (by kernel_rfl) rfl (fun K hK => ?_)
    rw [if_pos (by rfl)]
    refine wp_update _ _ _ rfl rfl rfl rfl hHm HQ.out HN.out ?_
    intro W2 h2 hg2
    refine hK.out _ _ (fun h => absurd (by decide) h) ?_
    clear hK K
    refine done_f (by kernel_rfl) ?_ _
    have hgs : g ≠ s := fun e => I1.out.ne (by rw [e]; rfl)
    have I2 : Hid (Inm Y s (.map (some g)) a (n + 1) (lk (ins q b l)) W2) := ⟨(hg2.block s (lt_heap I1.out.row) (fun e => hgs (by cases e; rfl))).trans I1.out.row, .inr ⟨g, rfl, by rw [lk_ins HC.out.2.2]; exact h2⟩, I1.out.ne⟩
    have K2 : Hid (Kp (Inf s (.map (some g))) WA W2) := (Kp.ofBelow b1.out).trans ((Kp.ofGrown hg2).mono fun k e => .inr e)
    clear hHm h2 hg2 b1 I1 hgs kN
    have kR := hide1 (release_any I2.out HX.out.1 HX.out.2.1 HX.out.2.2.1 HX.out.2.2.2.1 HX.out.2.2.2.2)
    go_wp2_with (go_at_call 64; refine kR.out.mono ?_; rintro e W3 ⟨v, rfl, hL3, hI3, hK3⟩)
    refine ret_t2 Try.results57 rfl rfl rfl ⟨v, .map (some g), rfl, hL3.mono ?_, hI3, ?_, fun k hk => .inl hk⟩
    · have := B0.out.size
      have := K2.out.size
      omega
    · exact ((Kp.ofBelow B0.out).trans K2.out).trans hK3

theorem take_any {Y : IX} {s a n : Nat} {m : Value} {l : List (Nat × ByteArray)} {w : World} (h : Inm Y s m a n (lk l) w) (hd : Hd a l) (ha : a + 100 < 4294967296) (q : Nat) (hq : q < 4294967296) (b : ByteArray) (hb : b.size ≤ 281474976710656) (hn : n < 1000000) :
    Calls Try.prog 57 #[.pointer (some ⟨s, 6, none⟩), .int .u32 (q : Int), .string b] w fun e w' => ∃ v m', e = .returned (.tuple #[v, .int .i64 (chkC a (lk l) q)]) ∧ Lst w.heap.size w' v (tkO a l q b) ∧ Inm Y s m' (tkA a l q b) (n + 1) (lk (tkR a l q b)) w' ∧ Kp (Inf s m) w w' ∧ (∀ g, mblk m' = some g → mblk m = some g ∨ w.heap.size ≤ g) := by
  unfold tkA tkR tkO
  by_cases hc : chkC a (lk l) q = 0
  · have k := take_ok h hd ha q hq b hb hn hc
    rw [if_pos hc, if_pos hc, hc]
    exact k
  · rw [if_neg hc, if_neg hc]
    refine (take_fail h (by omega) q hq b hc).mono ?_
    rintro e w' ⟨rfl, hb'⟩
    exact ⟨_, m, rfl, Lst.nil _ _, (h.below hb' (Nat.le_refl _)).mono (by omega), Kp.ofBelow hb', fun g hg => .inl hg⟩

end Go.Proofs.Ytcadlcpccemkbaa
