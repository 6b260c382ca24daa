/- Call by call: texts with their lengths. -/
import Derived.Test.YtmmhfipdolbinaaGreatDoorTn
namespace Go.Proofs.YtmmhfipdolbinaaGreatDoor
open Go.RowKit
set_option maxRecDepth 100000
attribute [local go_sem] not_any mf_any

theorem At3.row {b g : Nat} {x y z : Value} {W : World} (h : At3 b x y z W) (hne : b ≠ g) (cs : Array Value) : At3 b x y z (W.setRow g cs) := by
  have e : ∀ k, (W.setRow g cs).cell? ⟨b, k, none⟩ = W.cell? ⟨b, k, none⟩ := fun k => cell_setRow_other W g cs ⟨b, k, none⟩ hne
  refine ⟨⟨(e 0).trans h.1.1, (e 1).trans h.1.2.1, (e 2).trans h.1.2.2⟩, ?_⟩
  have := h.2
  simpa using this
theorem Bt.row_new {g d b : Nat} {w w' : World} (h : Bt g d w w') (hb : w.heap.size ≤ b) (cs : Array Value) : Bt g d w (w'.setRow b cs) := by
  have h2 := below_setRow (Below.refl w.heap.size w') hb cs
  exact ⟨h2.1.trans h.1, h2.2.trans h.2, h2.3.trans h.3, Nat.le_trans h.4 h2.4, fun i hi h3 h4 => (h2.5 i hi).trans (h.5 i hi h3 h4)⟩
theorem Bt.drewN {g d : Nat} {w w' : World} (h : Bt g d w w') (q : Nat) : Bt g d w (w'.drewN q) := ⟨h.1, h.2, h.3, h.4, h.5⟩
/- between the document's call and the program's -/
structure Mid (g dd cb xb nb : Nat) (w Y : World) (s f : ByteArray) (k k1 : Nat) (c c' kd mo wi : Int) : Prop where
  below : Below w.heap.size w Y
  n : Y.heap[nb]? = some (.cells #[.string s, .int .i64 (k1 : Int), .int .i64 c'] 27 (0, 0))
  cc : Y.heap[cb]? = some (.cells #[.int .i64 kd, .int .i64 mo, .int .i64 wi] 31 (0, 0))
  x : Y.heap[xb]? = some (.cells #[.string s, .int .i64 (k : Int), .int .i64 c] 27 (0, 0))
  d : Y.heap[dd]? = some (.cells #[.string s, .int .i64 (k : Int), .int .i64 c] 27 (0, 0))
  r : Y.heap[g]? = some (rdr s k c f)
  nx : nb ≠ xb
  cx : cb ≠ xb
  wx : w.heap.size ≤ xb
  wc : w.heap.size ≤ cb
  wn : w.heap.size ≤ nb
  lg : g < w.heap.size
theorem Mid.gb {g dd cb xb nb : Nat} {w Y : World} {s f : ByteArray} {k k1 : Nat} {c c' kd mo wi : Int} (h : Mid g dd cb xb nb w Y s f k k1 c c' kd mo wi) : nb ≠ g ∧ cb ≠ g := ⟨by have := h.wn; have := h.lg; omega, by have := h.wc; have := h.lg; omega⟩
theorem Mid.s2 {g dd cb xb nb : Nat} {w Y : World} {s f : ByteArray} {k k1 : Nat} {c c' kd mo wi : Int} (h : Mid g dd cb xb nb w Y s f k k1 c c' kd mo wi) : At3 nb (.string s) (.int .i64 (k1 : Int)) (.int .i64 c') Y ∧ At3 cb (.int .i64 kd) (.int .i64 mo) (.int .i64 wi) Y := by
  obtain ⟨a0, a1, a2, _, _, _, l0⟩ := box3 h.n
  obtain ⟨b0, b1, b2, _, _, _, l1⟩ := box3 h.cc
  exact ⟨⟨⟨a0, a1, a2⟩, l0⟩, ⟨b0, b1, b2⟩, l1⟩
theorem mid_next {g dd cb xb nb : Nat} {w Y w2 : World} {s f f1 : ByteArray} {k k1 : Nat} {c c' kd mo wi : Int} (h : Mid g dd cb xb nb w Y s f k k1 c c' kd mo wi) (hr : w2.heap[g]? = some (rdr s k1 c' f1)) (hb : But g Y.drew w2) (_ld : dd < w.heap.size) (lg : g < w.heap.size) (hne : g ≠ dd) :
    w2.heap[xb]? = some (.cells #[.string s, .int .i64 (k : Int), .int .i64 c] 27 (0, 0)) ∧ w2.heap[dd]? = some (.cells #[.string s, .int .i64 (k : Int), .int .i64 c] 27 (0, 0)) ∧ w2.heap[g]? = some (rdr s k1 c' f1) ∧ Bt g dd w w2 :=
  ⟨(hb.block xb (lt_heap h.x) (by have := h.wx; omega)).trans h.x, (hb.block dd (lt_heap h.d) (fun e => hne e.symm)).trans h.d, hr, ((Bt.of_below h.below).drew).trans (Bt.of_but hb)⟩
theorem mid_a {g dd cb xb : Nat} {w X w1 : World} {s f : ByteArray} {k k1 : Nat} {c c' kd mo wi : Int} {z : Obj} (hX : Below w.heap.size w X)
    (h0 : X.heap[cb]? = some (.cells #[.int .i64 kd, .int .i64 mo, .int .i64 wi] 31 (0, 0)))
    (h1 : X.heap[xb]? = some (.cells #[.string s, .int .i64 (k : Int), .int .i64 c] 27 (0, 0)) ∧ w.heap.size ≤ xb ∧ w.heap.size ≤ cb ∧ cb ≠ xb ∧ g < w.heap.size)
    (h2 : X.heap[dd]? = some (.cells #[.string s, .int .i64 (k : Int), .int .i64 c] 27 (0, 0))) (h3 : X.heap[g]? = some (rdr s k c f)) (hb : Below X.drew.heap.size X.drew w1) {o : Array Value} (hz : z = .cells o 27 (0, 0) := by rfl) :
    Mid g dd cb xb w1.heap.size w ((w1.alloc z).setRow w1.heap.size #[.string s, .int .i64 (k1 : Int), .int .i64 c']) s f k k1 c c' kd mo wi := by
  have hs := hb.size
  have hd : X.drew.heap = X.heap := rfl
  rw [hd] at hs
  have keep : ∀ {b : Nat} {o : Obj}, X.heap[b]? = some o → ((w1.alloc z).setRow w1.heap.size #[.string s, .int .i64 (k1 : Int), .int .i64 c']).heap[b]? = some o := fun {b o} h => by
    have l := lt_heap h
    have h4 : w1.heap[b]? = some o := (hb.block b l).trans h
    rw [setRow_other _ _ _ _ (by have := lt_heap h4; omega)]
    exact keep_alloc h4 _
  have l1 := lt_heap h1.1
  refine ⟨?_, ?_, keep h0, keep h1.1, keep h2, keep h3, by omega, h1.2.2.2.1, h1.2.1, h1.2.2.1, by have := hX.size; omega, h1.2.2.2.2⟩
  · exact below_setRow ((hX.trans ((((Below.refl X.heap.size X).drew).trans hb).mono hX.size)).alloc (by have := hX.size; omega) _) (by have := hX.size; omega) _
  · subst hz
    exact setRow_heap _ _ _ _ _ _ (heap_alloc_new w1 _)
theorem size_b (X : World) (z : Obj) : (X.alloc z).drew.heap.size = X.heap.size + 1 := by
  show (X.alloc z).heap.size = _
  simp
theorem after_b {X w1 : World} {z : Obj} (h : Below (X.alloc z).drew.heap.size (X.alloc z).drew w1) : w1.heap[X.heap.size]? = some z :=
  (h.block X.heap.size (by rw [size_b]; omega)).trans (heap_alloc_new X z)
theorem mid_b {g dd cb xb : Nat} {w X w1 : World} {s f : ByteArray} {k k1 : Nat} {c c' kd mo wi : Int} {z : Obj} (hX : Below w.heap.size w X)
    (h0 : X.heap[cb]? = some (.cells #[.int .i64 kd, .int .i64 mo, .int .i64 wi] 31 (0, 0)))
    (h1 : X.heap[xb]? = some (.cells #[.string s, .int .i64 (k : Int), .int .i64 c] 27 (0, 0)) ∧ w.heap.size ≤ xb ∧ w.heap.size ≤ cb ∧ cb ≠ xb ∧ g < w.heap.size)
    (h2 : X.heap[dd]? = some (.cells #[.string s, .int .i64 (k : Int), .int .i64 c] 27 (0, 0))) (h3 : X.heap[g]? = some (rdr s k c f)) (hb : Below (X.alloc z).drew.heap.size (X.alloc z).drew w1) {o : Array Value} (hz : z = .cells o 27 (0, 0) := by rfl) :
    Mid g dd cb xb X.heap.size w (w1.setRow X.heap.size #[.string s, .int .i64 (k1 : Int), .int .i64 c']) s f k k1 c c' kd mo wi := by
  have hn : w1.heap[X.heap.size]? = some z := after_b hb
  have hall : Below X.heap.size X w1 := (((Below.refl X.heap.size X).alloc (Nat.le_refl _) z).drew).trans (hb.mono (by rw [size_b]; omega))
  have keep : ∀ {b : Nat} {o : Obj}, X.heap[b]? = some o → (w1.setRow X.heap.size #[.string s, .int .i64 (k1 : Int), .int .i64 c']).heap[b]? = some o := fun {b o} h => by
    have l := lt_heap h
    rw [setRow_other _ _ _ _ (by omega)]
    exact (hall.block b l).trans h
  have l1 := lt_heap h1.1
  refine ⟨?_, ?_, keep h0, keep h1.1, keep h2, keep h3, by omega, h1.2.2.2.1, h1.2.1, h1.2.2.1, hX.size, h1.2.2.2.2⟩
  · exact below_setRow (hX.trans (hall.mono hX.size)) hX.size _
  · subst hz
    exact setRow_heap _ _ _ _ _ _ hn
theorem nl_over {W W' : World} {m : Nat} {a : Option Addr} {l : List Nat} (h : Nl W m a l) (hk : ∀ p, a = some p → p.block < W.heap.size → W'.heap[p.block]? = W.heap[p.block]?) : Nl W' m a l :=
  ⟨h.len, fun j x hj => by
    obtain ⟨b, o', rfl, hc⟩ := h.at' j x hj
    refine ⟨b, o', rfl, ?_⟩
    rw [← hc]
    exact World.cell?_of_block (hk ⟨b, o', none⟩ rfl (lt_cell hc))⟩
theorem bl_over {W W' : World} {m : Nat} {a : Option Addr} {l : List Bool} (h : Bl W m a l) (hk : ∀ p, a = some p → p.block < W.heap.size → W'.heap[p.block]? = W.heap[p.block]?) : Bl W' m a l :=
  ⟨h.len, fun j x hj => by
    obtain ⟨b, o', rfl, hc⟩ := h.at' j x hj
    refine ⟨b, o', rfl, ?_⟩
    rw [← hc]
    exact World.cell?_of_block (hk ⟨b, o', none⟩ rfl (lt_cell hc))⟩
theorem blk_a {w1 : World} {z : Obj} {cs : Array Value} {b : Nat} (h : b < w1.heap.size) : ((w1.alloc z).setRow w1.heap.size cs).heap[b]? = w1.heap[b]? := by
  rw [setRow_other _ _ _ _ (by omega)]
  exact Below.heap_alloc _ _ _ h
theorem nl_a {w1 : World} {m : Nat} {a : Option Addr} {l : List Nat} {z : Obj} {cs : Array Value} (h : Nl w1 m a l) : Nl ((w1.alloc z).setRow w1.heap.size cs) m a l := nl_over h (fun _ _ hl => blk_a hl)
theorem bl_a {w1 : World} {m : Nat} {a : Option Addr} {l : List Bool} {z : Obj} {cs : Array Value} (h : Bl w1 m a l) : Bl ((w1.alloc z).setRow w1.heap.size cs) m a l := bl_over h (fun _ _ hl => blk_a hl)
theorem nl_b {X w1 : World} {m : Nat} {a : Option Addr} {l : List Nat} {z : Obj} {cs : Array Value} (h : Nl w1 m a l) (hf : ∀ p, a = some p → (X.alloc z).drew.heap.size ≤ p.block) : Nl (w1.setRow X.heap.size cs) m a l :=
  nl_over h (fun p hp _ => setRow_other _ _ _ _ (by have := hf p hp; rw [size_b] at this; omega))
theorem bl_b {X w1 : World} {m : Nat} {a : Option Addr} {l : List Bool} {z : Obj} {cs : Array Value} (h : Bl w1 m a l) (hf : ∀ p, a = some p → (X.alloc z).drew.heap.size ≤ p.block) : Bl (w1.setRow X.heap.size cs) m a l :=
  bl_over h (fun p hp _ => setRow_other _ _ _ _ (by have := hf p hp; rw [size_b] at this; omega))
theorem new_a {w X : World} {a : Option Addr} (hX : Below w.heap.size w X) (hf : ∀ p, a = some p → X.drew.heap.size ≤ p.block) : ∀ p, a = some p → w.heap.size ≤ p.block := fun p hp => Nat.le_trans hX.size (hf p hp)
theorem new_b {w X : World} {a : Option Addr} {z : Obj} (hX : Below w.heap.size w X) (hf : ∀ p, a = some p → (X.alloc z).drew.heap.size ≤ p.block) : ∀ p, a = some p → w.heap.size ≤ p.block := fun p hp => by
  have := hf p hp; have := hX.size; rw [size_b] at *; omega
theorem nl_but {w Y w2 : World} {g m : Nat} {a : Option Addr} {l : List Nat} (h : Nl Y m a l) (hf : ∀ p, a = some p → w.heap.size ≤ p.block) (hb : But g Y.drew w2) (lg : g < w.heap.size) : Nl w2 m a l :=
  nl_over h (fun p hp hl => hb.block _ hl (by have := hf p hp; omega))
theorem bl_but {w Y w2 : World} {g m : Nat} {a : Option Addr} {l : List Bool} (h : Bl Y m a l) (hf : ∀ p, a = some p → w.heap.size ≤ p.block) (hb : But g Y.drew w2) (lg : g < w.heap.size) : Bl w2 m a l :=
  bl_over h (fun p hp hl => hb.block _ hl (by have := hf p hp; omega))
theorem bl_below {w2 w3 : World} {m : Nat} {a : Option Addr} {l : List Bool} (h : Bl w2 m a l) (hb : Below w2.heap.size w2 w3) : Bl w3 m a l := bl_over h (fun _ _ hl => hb.block _ hl)
theorem same_true (w : World) (n m c c' : Nat) (a b : Option Addr) (l : List Bool) (ha : Bl w n a l) (hb : Bl w m b l) (hlen : l.length ≤ 524288) :
    Calls Tryz.prog 20 #[.slice a n c, .slice b m c'] w fun e w' => e = .returned (.bool true) ∧ ∃ q, w' = w.drewN q := by
  have h := same_any w n m c c' a b l l ha hb (by rw [← ha.len]; omega) (by rw [← hb.len]; omega)
  rw [decide_eq_true rfl] at h
  exact h

set_option maxHeartbeats 8000000 in
theorem reads_blob (g dd k k1 : Nat) (s f f1 t : ByteArray) (c c' : Int) (mo wi : Int) (w : World) (hg : w.heap[g]? = some (rdr s k c f)) (hd : w.heap[dd]? = some (drow s k c)) (hne : g ≠ dd) (het : F.Et w) (hg0 : g ≠ 0) (hd0 : dd ≠ 0)
    (HD : ∀ w, Calls Tryz.prog 12 #[dv s k c, .int .i64 mo] w fun en w' => en = .returned (.tuple #[dv s k1 c', .string t]) ∧ Below w.heap.size w w')
    (HP : ∀ w, w.heap[g]? = some (rdr s k c f) → Calls Tryz.prog 13 #[.pointer (some ⟨g, 0, none⟩), .string ⟨#[100]⟩, .int .i64 mo] w fun e w' => e = .returned (.string t) ∧ w'.heap[g]? = some (rdr s k1 c' f1) ∧ But g w w') :
    Calls Tryz.prog 6 #[.pointer (some ⟨g, 0, none⟩), .pointer (some ⟨dd, 0, none⟩), .agg #[.int .i64 3, .int .i64 mo, .int .i64 wi]] w fun e w' => e = .returned (.bool true) ∧ w'.heap[g]? = some (rdr s k1 c' f1) ∧ w'.heap[dd]? = some (drow s k1 c') ∧ Bt g dd w w' := by
  have mx := mixed
  have kD := fun w => hide1 (HD w)
  have kP := fun w h => hide1 (HP w h)
  have lg := lt_heap hg
  have ld := lt_heap hd
  unfold drow at hd
  obtain ⟨d0, d1, d2, _, _, _, _⟩ := box3 hd
  have HG := hide1 hg
  have HET := hide1 het
  have hw0 : 0 < w.heap.size := by omega
  have HDD := hide1 hd
  clear HD HP hg hd het
  unfold dv at *
  go_enter Tryz.func6, Tryz.ntmps6
  go_upto_region 16 with (fail)
  generalize hX : World.alloc (World.alloc w _) _ = X
  have HX : Hid (Below w.heap.size w X) := by rw [← hX]; exact two_below _ _
  have H0 := hide1 (hX ▸ heap_alloc2_old w _ _)
  have H1 := hide1 (hX ▸ heap_alloc2_new w _ _)
  have H2 := hide1 ((HX.out.block _ ld).trans HDD.out)
  have H3 := hide1 ((HX.out.block _ lg).trans HG.out)
  obtain ⟨c0, c1, c2, _, _, _, l0⟩ := box3 H2.out
  obtain ⟨e0, e1, e2, _, _, _, l1⟩ := box3 H0.out
  obtain ⟨xb, hxb⟩ : ∃ b, w.heap.size + 1 = b := ⟨_, rfl⟩
  obtain ⟨cb, hcb⟩ : ∃ b, w.heap.size = b := ⟨_, rfl⟩
  have WX : Shy (w.heap.size ≤ xb ∧ w.heap.size ≤ cb ∧ cb ≠ xb ∧ g < w.heap.size) := ⟨by omega, by omega, by omega, lg⟩
  rw [hxb] at H1 ⊢
  rw [hcb] at H0 e0 e1 e2 l1 ⊢
  have HS : Shy ((fun W => At3 dd (.string s) (.int .i64 (k : Int)) (.int .i64 c) W ∧ At3 cb (.int .i64 3) (.int .i64 mo) (.int .i64 wi) W) X) := ⟨⟨⟨c0, c1, c2⟩, l0⟩, ⟨e0, e1, e2⟩, l1⟩
  clear hX d0 d1 d2 hxb hcb c0 c1 c2 e0 e1 e2 l0 l1 HDD HG
  replace H1 := hide1 (And.intro H1.out WX.out)
  refine region_f (F := [10]) (S := fun W => At3 dd (.string s) (.int .i64 (k : Int)) (.int .i64 c) W ∧ At3 cb (.int .i64 3) (.int .i64 mo) (.int .i64 wi) W) (by kernel_rfl) HS.out (fun hS => ?_)
  refine take_p 0 81 (.pointer (some ⟨dd, 0, none⟩)) rfl rfl (by kernel_rfl) (by kernel_rfl) (by kernel_rfl) (fun _ _ _ h => h) rfl (fun w => by go_simp) ?_
  try simp only [List.setIfInBounds_toArray, List.set_cons_zero, List.set_cons_succ]
  refine take_p 1 82 (.pointer (some ⟨dd, 0, none⟩)) rfl rfl (by kernel_rfl) (by kernel_rfl) (by kernel_rfl) (fun _ _ _ h => h) rfl (fun w => by go_simp) ?_
  try simp only [List.setIfInBounds_toArray, List.set_cons_zero, List.set_cons_succ]
  refine take_f 2 83 (.agg #[.string s, .int .i64 (k : Int), .int .i64 c]) [5, 6, 7, 8, 10, 11] rfl rfl (by kernel_rfl) (by kernel_rfl) (by kernel_rfl) (by kernel_rfl) (by kernel_rfl) (by kernel_rfl) (fun _ _ _ h => h) rfl (fun w hSw => by obtain ⟨⟨⟨r0, r1, r2⟩, rl⟩, ⟨⟨q0, q1, q2⟩, ql⟩⟩ := hSw; go_simp) hS ?_
  try simp only [List.setIfInBounds_toArray, List.set_cons_zero, List.set_cons_succ]
  refine take_p 3 84 (.pointer (some ⟨cb, 1, none⟩)) rfl rfl (by kernel_rfl) (by kernel_rfl) (by kernel_rfl) (fun _ _ _ h => h) rfl (fun w => by go_simp) ?_
  try simp only [List.setIfInBounds_toArray, List.set_cons_zero, List.set_cons_succ]
  refine take_f 4 85 (.int .i64 mo) [5, 6, 7, 8, 10, 11] rfl rfl (by kernel_rfl) (by kernel_rfl) (by kernel_rfl) (by kernel_rfl) (by kernel_rfl) (by kernel_rfl) (fun _ _ _ h => h) rfl (fun w hSw => by obtain ⟨⟨⟨r0, r1, r2⟩, rl⟩, ⟨⟨q0, q1, q2⟩, ql⟩⟩ := hSw; go_simp) hS ?_
  try simp only [List.setIfInBounds_toArray, List.set_cons_zero, List.set_cons_succ]
  refine ready2_f 5 9 (o := { dst := some 86, op := Op.call { callee := Callee.value (Operand.func 12), args := #[Operand.tmp 83, Operand.tmp 85], argTypes := #[29, 3] }, type := 49, pos := "law.go:121", after := #[{ on := 2, ground := Ground.data }, { on := 4, ground := Ground.data }], guard := none }) (o' := { dst := some 15, op := Op.alloc 27, type := 0, pos := "law.go:121", after := #[], guard := none }) (by kernel_rfl) rfl rfl (fun K hK => ?_) (fun K hK => ?_)
  · go_simp
    refine (kD _).out.mono ?_
    rintro e w1 ⟨rfl, hb1⟩
    refine hK.out _ _ (fun _ h => ⟨h.1.below hb1, h.2.below hb1⟩) ?_
    clear hK K
    try simp only [Act.put, List.setIfInBounds_toArray, List.set_cons_zero, List.set_cons_succ]
    refine take_p 6 80 (.tuple #[.agg #[.string s, .int .i64 (k1 : Int), .int .i64 c'], .string t]) rfl rfl (by kernel_rfl) (by kernel_rfl) (by kernel_rfl) (fun _ _ _ h => h) rfl (fun w => by go_simp) ?_
    try simp only [List.setIfInBounds_toArray, List.set_cons_zero, List.set_cons_succ]
    refine take_p 7 87 (.agg #[.string s, .int .i64 (k1 : Int), .int .i64 c']) rfl rfl (by kernel_rfl) (by kernel_rfl) (by kernel_rfl) (fun _ _ _ h => h) rfl (fun w => by go_simp) ?_
    try simp only [List.setIfInBounds_toArray, List.set_cons_zero, List.set_cons_succ]
    refine take_p 8 88 (.string t) rfl rfl (by kernel_rfl) (by kernel_rfl) (by kernel_rfl) (fun _ _ _ h => h) rfl (fun w => by go_simp) ?_
    try simp only [List.setIfInBounds_toArray, List.set_cons_zero, List.set_cons_succ]
    refine ready_f 9 (o := { dst := some 15, op := Op.alloc 27, type := 0, pos := "law.go:121", after := #[], guard := none }) (by kernel_rfl) rfl (fun K hK => ?_)
    go_simp
    refine hK.out _ _ (fun _ h => ⟨h.1.below ((Below.refl _ _).alloc (Nat.le_refl _) _), h.2.below ((Below.refl _ _).alloc (Nat.le_refl _) _)⟩) ?_
    clear hK K
    try simp only [Act.put, List.setIfInBounds_toArray, List.set_cons_zero, List.set_cons_succ]
    refine ready_f 10 (o := { dst := none, op := Op.store 27 (Operand.tmp 15) (Operand.tmp 87), type := 0, pos := "law.go:121", after := #[{ on := 9, ground := Ground.data }, { on := 7, ground := Ground.data }, { on := 5, ground := Ground.chain }, { on := 0, ground := Ground.phase }, { on := 1, ground := Ground.phase }, { on := 2, ground := Ground.phase }, { on := 3, ground := Ground.phase }, { on := 4, ground := Ground.phase }, { on := 5, ground := Ground.phase }, { on := 6, ground := Ground.phase }, { on := 7, ground := Ground.phase }, { on := 8, ground := Ground.textOnly Departure.lateStores }, { on := 9, ground := Ground.phase }], guard := none }) (by kernel_rfl) rfl (fun K hK => ?_)
    rw [if_pos (by rfl)]
    refine wp_store_row 27 _ _ rfl w1.heap.size _ rfl rfl 27 _ (heap_alloc_new w1 _) (by kernel_rfl) rfl (by kernel_rfl) ?_
    refine hK.out _ _ (fun h => absurd (by decide) h) ?_
    clear hK K
    refine take_p 11 16 (.string t) rfl rfl (by kernel_rfl) (by kernel_rfl) (by kernel_rfl) (fun _ _ _ h => h) rfl (fun w => by go_simp) ?_
    try simp only [List.setIfInBounds_toArray, List.set_cons_zero, List.set_cons_succ]
    refine done_f (by kernel_rfl) ?_ _
    have MID := hide1 (mid_a (k1 := k1) (c' := c') (z := .cells #[.string ⟨#[]⟩, .int .i64 0, .int .i64 0] 27 (0, 0)) (o := #[.string ⟨#[]⟩, .int .i64 0, .int .i64 0]) HX.out H0.out H1.out H2.out H3.out hb1)
    revert MID
    generalize hY : World.setRow _ _ _ = Y
    generalize hnb : w1.heap.size = nb
    intro MID
    clear hnb hY hb1 HX H0 H1 H2 H3 hS HS
    go_upto_region 17 with (fail)
    have gb := MID.out.gb
    have kP' := kP Y.drew MID.out.r
    have HS2 : Shy ((fun W => At3 nb (.string s) (.int .i64 (k1 : Int)) (.int .i64 c') W ∧ At3 cb (.int .i64 3) (.int .i64 mo) (.int .i64 wi) W) Y) := ⟨MID.out.s2⟩
    refine region_f (F := []) (S := fun W => At3 nb (.string s) (.int .i64 (k1 : Int)) (.int .i64 c') W ∧ At3 cb (.int .i64 3) (.int .i64 mo) (.int .i64 wi) W) (by kernel_rfl) HS2.out (fun hS => ?_)
    refine take_f 0 89 (.agg #[.string s, .int .i64 (k1 : Int), .int .i64 c']) [7, 8] rfl rfl (by kernel_rfl) (by kernel_rfl) (by kernel_rfl) (by kernel_rfl) (by kernel_rfl) (by kernel_rfl) (fun _ _ _ h => h) rfl (fun w hSw => by obtain ⟨⟨⟨r0, r1, r2⟩, rl⟩, ⟨⟨q0, q1, q2⟩, ql⟩⟩ := hSw; go_simp) hS ?_
    try simp only [List.setIfInBounds_toArray, List.set_cons_zero, List.set_cons_succ]
    refine take_p 1 90 (.pointer (some ⟨g, 0, none⟩)) rfl rfl (by kernel_rfl) (by kernel_rfl) (by kernel_rfl) (fun _ _ _ h => h) rfl (fun w => by go_simp) ?_
    try simp only [List.setIfInBounds_toArray, List.set_cons_zero, List.set_cons_succ]
    refine take_p 2 91 (.pointer (some ⟨cb, 1, none⟩)) rfl rfl (by kernel_rfl) (by kernel_rfl) (by kernel_rfl) (fun _ _ _ h => h) rfl (fun w => by go_simp) ?_
    try simp only [List.setIfInBounds_toArray, List.set_cons_zero, List.set_cons_succ]
    refine take_f 3 92 (.int .i64 mo) [4, 6, 7, 8] rfl rfl (by kernel_rfl) (by kernel_rfl) (by kernel_rfl) (by kernel_rfl) (by kernel_rfl) (by kernel_rfl) (fun _ _ _ h => h) rfl (fun w hSw => by obtain ⟨⟨⟨r0, r1, r2⟩, rl⟩, ⟨⟨q0, q1, q2⟩, ql⟩⟩ := hSw; go_simp) hS ?_
    try simp only [List.setIfInBounds_toArray, List.set_cons_zero, List.set_cons_succ]
    refine take_p 5 94 (.string t) rfl rfl (by kernel_rfl) (by kernel_rfl) (by kernel_rfl) (fun _ _ _ h => h) rfl (fun w => by go_simp) ?_
    try simp only [List.setIfInBounds_toArray, List.set_cons_zero, List.set_cons_succ]
    refine ready_f 4 (o := { dst := some 93, op := Op.call { callee := Callee.value (Operand.func 13), args := #[Operand.tmp 90, Operand.const (Value.string { data := #[100] }), Operand.tmp 92], argTypes := #[24, 9, 3] }, type := 9, pos := "law.go:122", after := #[{ on := 1, ground := Ground.data }, { on := 3, ground := Ground.data }], guard := none }) (by kernel_rfl) rfl (fun K hK => ?_)
    go_simp
    refine kP'.out.mono ?_
    rintro e w2 ⟨rfl, hr2, hb2⟩
    refine hK.out _ _ (fun _ h => ⟨h.1.but hb2 gb.1, h.2.but hb2 gb.2⟩) ?_
    clear hK K
    try simp only [Act.put, List.setIfInBounds_toArray, List.set_cons_zero, List.set_cons_succ]
    obtain ⟨J1, J2, J3, BT2⟩ := mid_next MID.out hr2 hb2 ld lg hne
    clear hr2 hb2
    refine take_p 6 95 (.bool true) rfl rfl (by kernel_rfl) (by kernel_rfl) (by kernel_rfl) (fun _ _ _ h => h) rfl (fun w => by go_simp) ?_
    try simp only [List.setIfInBounds_toArray, List.set_cons_zero, List.set_cons_succ]
    have H1J := hide1 J1
    have H2J := hide1 J2
    have H3J := hide1 J3
    have HB2 := hide1 BT2
    clear J1 J2 J3 BT2
    refine ready_f 7 (o := { dst := none, op := Op.store 27 (Operand.tmp 7) (Operand.tmp 89), type := 0, pos := "law.go:122", after := #[{ on := 0, ground := Ground.data }, { on := 4, ground := Ground.chain }, { on := 0, ground := Ground.phase }, { on := 1, ground := Ground.textOnly Departure.lateStores }, { on := 2, ground := Ground.textOnly Departure.lateStores }, { on := 3, ground := Ground.textOnly Departure.lateStores }, { on := 4, ground := Ground.textOnly Departure.lateStoresUnsure }, { on := 5, ground := Ground.textOnly Departure.lateStores }, { on := 6, ground := Ground.textOnly Departure.lateStores }], guard := none }) (by kernel_rfl) rfl (fun K hK => ?_)
    rw [if_pos (by rfl)]
    refine wp_store_row 27 _ _ rfl xb _ rfl rfl 27 _ H1J.out (by kernel_rfl) rfl (by kernel_rfl) ?_
    refine hK.out _ _ (fun _ h => ⟨h.1.row MID.out.nx _, h.2.row MID.out.cx _⟩) ?_
    clear hK K
    refine take_p 8 8 (.bool true) rfl rfl (by kernel_rfl) (by kernel_rfl) (by kernel_rfl) (fun _ _ _ h => h) rfl (fun w => by go_simp) ?_
    try simp only [List.setIfInBounds_toArray, List.set_cons_zero, List.set_cons_succ]
    refine done_f (by kernel_rfl) ?_ _
    generalize hW : World.setRow _ _ _ = W
    have BTW : Hid (Bt g dd w W) := by rw [← hW]; exact HB2.out.row_new MID.out.wx _
    have hn := hW ▸ setRow_heap w2 xb _ _ _ _ H1J.out
    have hdd : W.heap[dd]? = some (.cells #[.string s, .int .i64 (k : Int), .int .i64 c] 27 (0, 0)) := by rw [← hW]; exact (setRow_other _ xb dd _ (by have := MID.out.wx; omega)).trans H2J.out
    have hgg : W.heap[g]? = some (rdr s k1 c' f1) := by rw [← hW]; exact (setRow_other _ xb g _ (by have := MID.out.wx; omega)).trans H3J.out
    obtain ⟨n0, n1', n2', _, _, _, _⟩ := box3 hn
    obtain ⟨m0, m1, m2, p0', p1', p2', l5⟩ := box3 hdd
    have HDW := hide1 hdd
    have HGW := hide1 hgg
    clear hn hdd hgg hW H1J H2J H3J kP' hS HS2 MID HB2 gb
    go_upto_region 31 with (fail)
    generalize hV : World.setCell (World.setCell (World.setCell W _ _) _ _) _ _ = V
    have BTV : Hid (Bt g dd w V) := by rw [← hV]; exact ((BTW.out.trans (Bt.of_but' (But.set dd 0 _ _))).trans (Bt.of_but' (But.set dd 1 _ _))).trans (Bt.of_but' (But.set dd 2 _ _))
    have hd5 := hV ▸ set_box3 HDW.out
    have hg5 : V.heap[g]? = some (rdr s k1 c' f1) := by rw [← hV]; exact keep_box3 HGW.out hne
    obtain ⟨m0, m1, m2, _, _, _, l5⟩ := box3 hd5
    have HD5 := hide1 hd5
    have HG5 := hide1 hg5
    clear hd5 hg5 hV n0 n1' n2' p0' p1' p2'
    have HS : Shy (At3 dd (.string s) (.int .i64 (k1 : Int)) (.int .i64 c') V) := ⟨⟨m0, m1, m2⟩, l5⟩
    have kA := hide1 (at_any g k1 s f1 c' V.drew HG5.out)
    have kE := hide1 (err_is g k1 s f1 c' V.drew HG5.out)
    have ETV : Hid (F.Et V) := by
      have e := BTV.out.block 0 hw0 (by omega) (by omega)
      show V.cell? ⟨0, 0, none⟩ = _
      have h := HET.out
      unfold F.Et at h
      rw [← h]
      simp only [World.cell?, e]
    refine region_f (F := []) (S := At3 dd (.string s) (.int .i64 (k1 : Int)) (.int .i64 c')) (by kernel_rfl) HS.out (fun hS => ?_)
    refine take_p 0 170 (.bool true) rfl rfl (by kernel_rfl) (by kernel_rfl) (by kernel_rfl) (fun _ _ _ h => h) rfl (fun w => by go_simp) ?_
    try simp only [List.setIfInBounds_toArray, List.set_cons_zero, List.set_cons_succ]
    refine take_p 1 171 (.bool true) rfl rfl (by kernel_rfl) (by kernel_rfl) (by kernel_rfl) (fun _ _ _ h => h) rfl (fun w => by go_simp) ?_
    try simp only [List.setIfInBounds_toArray, List.set_cons_zero, List.set_cons_succ]
    refine take_p 2 172 (.pointer (some ⟨g, 0, none⟩)) rfl rfl (by kernel_rfl) (by kernel_rfl) (by kernel_rfl) (fun _ _ _ h => h) rfl (fun w => by go_simp) ?_
    try simp only [List.setIfInBounds_toArray, List.set_cons_zero, List.set_cons_succ]
    refine take_p 4 174 (.pointer (some ⟨dd, 0, none⟩)) rfl rfl (by kernel_rfl) (by kernel_rfl) (by kernel_rfl) (fun _ _ _ h => h) rfl (fun w => by go_simp) ?_
    try simp only [List.setIfInBounds_toArray, List.set_cons_zero, List.set_cons_succ]
    refine take_p 5 175 (.pointer (some ⟨dd, 0, none⟩)) rfl rfl (by kernel_rfl) (by kernel_rfl) (by kernel_rfl) (fun _ _ _ h => h) rfl (fun w => by go_simp) ?_
    try simp only [List.setIfInBounds_toArray, List.set_cons_zero, List.set_cons_succ]
    refine take_p 6 176 (.pointer (some ⟨dd, 1, none⟩)) rfl rfl (by kernel_rfl) (by kernel_rfl) (by kernel_rfl) (fun _ _ _ h => h) rfl (fun w => by go_simp) ?_
    try simp only [List.setIfInBounds_toArray, List.set_cons_zero, List.set_cons_succ]
    refine take_f 7 177 (.int .i64 (k1 : Int)) [8, 9, 10, 11, 12, 13, 14, 15, 16, 17, 18, 19, 20] rfl rfl (by kernel_rfl) (by kernel_rfl) (by kernel_rfl) (by kernel_rfl) (by kernel_rfl) (by kernel_rfl) (fun _ _ _ h => h) rfl (fun w hSw => by obtain ⟨⟨r0, r1, r2⟩, rl⟩ := hSw; go_simp) hS ?_
    try simp only [List.setIfInBounds_toArray, List.set_cons_zero, List.set_cons_succ]
    refine ready_f 3 (o := { dst := some 173, op := Op.call { callee := Callee.value (Operand.func 28), args := #[Operand.tmp 172], argTypes := #[24] }, type := 3, pos := "law.go:140", after := #[{ on := 2, ground := Ground.data }, { on := 1, ground := Ground.chain }, { on := 1, ground := Ground.guard }], guard := some (1, true) }) (by kernel_rfl) rfl (fun K hK => ?_)
    go_simp
    refine kA.out.mono ?_
    rintro e w' ⟨rfl, hw'⟩
    cases hw'
    refine hK.out _ _ (fun _ h => h) ?_
    clear hK K
    try simp only [Act.put, List.setIfInBounds_toArray, List.set_cons_zero, List.set_cons_succ]
    refine take_p 8 178 (.bool true) rfl rfl (by kernel_rfl) (by kernel_rfl) (by kernel_rfl) (fun _ _ _ h => h) rfl (fun w => by go_simp) ?_
    try simp only [List.setIfInBounds_toArray, List.set_cons_zero, List.set_cons_succ]
    refine take_p 9 179 (.bool true) rfl rfl (by kernel_rfl) (by kernel_rfl) (by kernel_rfl) (fun _ _ _ h => h) rfl (fun w => by go_simp) ?_
    try simp only [List.setIfInBounds_toArray, List.set_cons_zero, List.set_cons_succ]
    refine take_p 10 180 (.bool true) rfl rfl (by kernel_rfl) (by kernel_rfl) (by kernel_rfl) (fun _ _ _ h => h) rfl (fun w => by go_simp) ?_
    try simp only [List.setIfInBounds_toArray, List.set_cons_zero, List.set_cons_succ]
    refine take_p 11 181 (.pointer (some ⟨g, 0, none⟩)) rfl rfl (by kernel_rfl) (by kernel_rfl) (by kernel_rfl) (fun _ _ _ h => h) rfl (fun w => by go_simp) ?_
    try simp only [List.setIfInBounds_toArray, List.set_cons_zero, List.set_cons_succ]
    refine take_p 14 184 (.pointer (some ⟨dd, 0, none⟩)) rfl rfl (by kernel_rfl) (by kernel_rfl) (by kernel_rfl) (fun _ _ _ h => h) rfl (fun w => by go_simp) ?_
    try simp only [List.setIfInBounds_toArray, List.set_cons_zero, List.set_cons_succ]
    refine take_p 15 185 (.pointer (some ⟨dd, 0, none⟩)) rfl rfl (by kernel_rfl) (by kernel_rfl) (by kernel_rfl) (fun _ _ _ h => h) rfl (fun w => by go_simp) ?_
    try simp only [List.setIfInBounds_toArray, List.set_cons_zero, List.set_cons_succ]
    refine take_p 16 186 (.pointer (some ⟨dd, 2, none⟩)) rfl rfl (by kernel_rfl) (by kernel_rfl) (by kernel_rfl) (fun _ _ _ h => h) rfl (fun w => by go_simp) ?_
    try simp only [List.setIfInBounds_toArray, List.set_cons_zero, List.set_cons_succ]
    refine take_f 17 187 (.int .i64 c') [18, 19, 20] rfl rfl (by kernel_rfl) (by kernel_rfl) (by kernel_rfl) (by kernel_rfl) (by kernel_rfl) (by kernel_rfl) (fun _ _ _ h => h) rfl (fun w hSw => by obtain ⟨⟨r0, r1, r2⟩, rl⟩ := hSw; go_simp) hS ?_
    try simp only [List.setIfInBounds_toArray, List.set_cons_zero, List.set_cons_succ]
    refine ready_f 12 (o := { dst := some 182, op := Op.call { callee := Callee.value (Operand.func 29), args := #[Operand.tmp 181], argTypes := #[24] }, type := 66, pos := "law.go:140", after := #[{ on := 11, ground := Ground.data }, { on := 10, ground := Ground.chain }, { on := 10, ground := Ground.guard }], guard := some (10, true) }) (by kernel_rfl) rfl (fun K hK => ?_)
    go_simp
    refine kE.out.mono ?_
    rintro e w5 ⟨v, rfl, hv, hb5⟩
    refine hK.out _ _ (fun _ h => h.below hb5) ?_
    clear hK K
    try simp only [Act.put, List.setIfInBounds_toArray, List.set_cons_zero, List.set_cons_succ]
    have HV := hide1 hv
    have J1 := hide1 ((hb5.block _ (lt_heap HG5.out)).trans HG5.out)
    have J2 := hide1 ((hb5.block _ (lt_heap HD5.out)).trans HD5.out)
    have BT5 := hide1 (BTV.out.drew.trans (Bt.of_below hb5))
    have ET5 : Hid (F.Et w5) := (show F.Et V.drew from ETV.out).below hb5 (by have := BTV.out.size; show 0 < V.heap.size; omega)
    clear hv hb5
    refine ready_f 13 (o := { dst := some 183, op := Op.call { callee := Callee.value (Operand.func 24), args := #[Operand.tmp 182], argTypes := #[66] }, type := 40, pos := "law.go:140", after := #[{ on := 12, ground := Ground.data }, { on := 12, ground := Ground.chain }, { on := 10, ground := Ground.guard }], guard := some (10, true) }) (by kernel_rfl) rfl (fun K hK => ?_)
    go_simp
    refine (F.code_any w5 c' v ET5.out HV.out).mono ?_
    rintro e w6 ⟨rfl, hb6⟩
    refine hK.out _ _ (fun _ h => h.below hb6) ?_
    clear hK K
    try simp only [Act.put, List.setIfInBounds_toArray, List.set_cons_zero, List.set_cons_succ]
    have I1 := hide1 ((hb6.block _ (lt_heap J1.out)).trans J1.out)
    have I2 := hide1 ((hb6.block _ (lt_heap J2.out)).trans J2.out)
    have BT6 := hide1 (BT5.out.trans (Bt.of_below hb6))
    clear hb6
    refine take_p 18 188 (.bool true) rfl rfl (by kernel_rfl) (by kernel_rfl) (by kernel_rfl) (fun _ _ _ h => h) rfl (fun w => by go_simp) ?_
    try simp only [List.setIfInBounds_toArray, List.set_cons_zero, List.set_cons_succ]
    refine take_p 19 189 (.bool true) rfl rfl (by kernel_rfl) (by kernel_rfl) (by kernel_rfl) (fun _ _ _ h => h) rfl (fun w => by go_simp) ?_
    try simp only [List.setIfInBounds_toArray, List.set_cons_zero, List.set_cons_succ]
    refine take_p 20 6 (.bool true) rfl rfl (by kernel_rfl) (by kernel_rfl) (by kernel_rfl) (fun _ _ _ h => h) rfl (fun w => by go_simp) ?_
    try simp only [List.setIfInBounds_toArray, List.set_cons_zero, List.set_cons_succ]
    refine done_f (by kernel_rfl) ?_ _
    go_wp2
    go_ret
    exact ⟨rfl, I1.out, I2.out, BT6.out⟩
  · go_simp
    refine hK.out _ _ (fun _ h => ⟨h.1.below ((Below.refl _ _).alloc (Nat.le_refl _) _), h.2.below ((Below.refl _ _).alloc (Nat.le_refl _) _)⟩) ?_
    clear hK K
    try simp only [Act.put, List.setIfInBounds_toArray, List.set_cons_zero, List.set_cons_succ]
    refine ready_f 5 (o := { dst := some 86, op := Op.call { callee := Callee.value (Operand.func 12), args := #[Operand.tmp 83, Operand.tmp 85], argTypes := #[29, 3] }, type := 49, pos := "law.go:121", after := #[{ on := 2, ground := Ground.data }, { on := 4, ground := Ground.data }], guard := none }) (by kernel_rfl) rfl (fun K hK => ?_)
    go_simp
    refine (kD _).out.mono ?_
    rintro e w1 ⟨rfl, hb1⟩
    refine hK.out _ _ (fun _ h => ⟨h.1.below hb1, h.2.below hb1⟩) ?_
    clear hK K
    try simp only [Act.put, List.setIfInBounds_toArray, List.set_cons_zero, List.set_cons_succ]
    refine take_p 6 80 (.tuple #[.agg #[.string s, .int .i64 (k1 : Int), .int .i64 c'], .string t]) rfl rfl (by kernel_rfl) (by kernel_rfl) (by kernel_rfl) (fun _ _ _ h => h) rfl (fun w => by go_simp) ?_
    try simp only [List.setIfInBounds_toArray, List.set_cons_zero, List.set_cons_succ]
    refine take_p 7 87 (.agg #[.string s, .int .i64 (k1 : Int), .int .i64 c']) rfl rfl (by kernel_rfl) (by kernel_rfl) (by kernel_rfl) (fun _ _ _ h => h) rfl (fun w => by go_simp) ?_
    try simp only [List.setIfInBounds_toArray, List.set_cons_zero, List.set_cons_succ]
    refine take_p 8 88 (.string t) rfl rfl (by kernel_rfl) (by kernel_rfl) (by kernel_rfl) (fun _ _ _ h => h) rfl (fun w => by go_simp) ?_
    try simp only [List.setIfInBounds_toArray, List.set_cons_zero, List.set_cons_succ]
    refine ready_f 10 (o := { dst := none, op := Op.store 27 (Operand.tmp 15) (Operand.tmp 87), type := 0, pos := "law.go:121", after := #[{ on := 9, ground := Ground.data }, { on := 7, ground := Ground.data }, { on := 5, ground := Ground.chain }, { on := 0, ground := Ground.phase }, { on := 1, ground := Ground.phase }, { on := 2, ground := Ground.phase }, { on := 3, ground := Ground.phase }, { on := 4, ground := Ground.phase }, { on := 5, ground := Ground.phase }, { on := 6, ground := Ground.phase }, { on := 7, ground := Ground.phase }, { on := 8, ground := Ground.textOnly Departure.lateStores }, { on := 9, ground := Ground.phase }], guard := none }) (by kernel_rfl) rfl (fun K hK => ?_)
    rw [if_pos (by rfl)]
    refine wp_store_row 27 _ _ rfl X.heap.size _ rfl rfl 27 _ (after_b hb1) (by kernel_rfl) rfl (by kernel_rfl) ?_
    refine hK.out _ _ (fun h => absurd (by decide) h) ?_
    clear hK K
    refine take_p 11 16 (.string t) rfl rfl (by kernel_rfl) (by kernel_rfl) (by kernel_rfl) (fun _ _ _ h => h) rfl (fun w => by go_simp) ?_
    try simp only [List.setIfInBounds_toArray, List.set_cons_zero, List.set_cons_succ]
    refine done_f (by kernel_rfl) ?_ _
    have MID := hide1 (mid_b (k1 := k1) (c' := c') (z := .cells #[.string ⟨#[]⟩, .int .i64 0, .int .i64 0] 27 (0, 0)) (o := #[.string ⟨#[]⟩, .int .i64 0, .int .i64 0]) HX.out H0.out H1.out H2.out H3.out hb1)
    revert MID
    generalize hY : World.setRow _ _ _ = Y
    generalize hnb : X.heap.size = nb
    intro MID
    clear hnb hY hb1 HX H0 H1 H2 H3 hS HS
    go_upto_region 17 with (fail)
    have gb := MID.out.gb
    have kP' := kP Y.drew MID.out.r
    have HS2 : Shy ((fun W => At3 nb (.string s) (.int .i64 (k1 : Int)) (.int .i64 c') W ∧ At3 cb (.int .i64 3) (.int .i64 mo) (.int .i64 wi) W) Y) := ⟨MID.out.s2⟩
    refine region_f (F := []) (S := fun W => At3 nb (.string s) (.int .i64 (k1 : Int)) (.int .i64 c') W ∧ At3 cb (.int .i64 3) (.int .i64 mo) (.int .i64 wi) W) (by kernel_rfl) HS2.out (fun hS => ?_)
    refine take_f 0 89 (.agg #[.string s, .int .i64 (k1 : Int), .int .i64 c']) [7, 8] rfl rfl (by kernel_rfl) (by kernel_rfl) (by kernel_rfl) (by kernel_rfl) (by kernel_rfl) (by kernel_rfl) (fun _ _ _ h => h) rfl (fun w hSw => by obtain ⟨⟨⟨r0, r1, r2⟩, rl⟩, ⟨⟨q0, q1, q2⟩, ql⟩⟩ := hSw; go_simp) hS ?_
    try simp only [List.setIfInBounds_toArray, List.set_cons_zero, List.set_cons_succ]
    refine take_p 1 90 (.pointer (some ⟨g, 0, none⟩)) rfl rfl (by kernel_rfl) (by kernel_rfl) (by kernel_rfl) (fun _ _ _ h => h) rfl (fun w => by go_simp) ?_
    try simp only [List.setIfInBounds_toArray, List.set_cons_zero, List.set_cons_succ]
    refine take_p 2 91 (.pointer (some ⟨cb, 1, none⟩)) rfl rfl (by kernel_rfl) (by kernel_rfl) (by kernel_rfl) (fun _ _ _ h => h) rfl (fun w => by go_simp) ?_
    try simp only [List.setIfInBounds_toArray, List.set_cons_zero, List.set_cons_succ]
    refine take_f 3 92 (.int .i64 mo) [4, 6, 7, 8] rfl rfl (by kernel_rfl) (by kernel_rfl) (by kernel_rfl) (by kernel_rfl) (by kernel_rfl) (by kernel_rfl) (fun _ _ _ h => h) rfl (fun w hSw => by obtain ⟨⟨⟨r0, r1, r2⟩, rl⟩, ⟨⟨q0, q1, q2⟩, ql⟩⟩ := hSw; go_simp) hS ?_
    try simp only [List.setIfInBounds_toArray, List.set_cons_zero, List.set_cons_succ]
    refine take_p 5 94 (.string t) rfl rfl (by kernel_rfl) (by kernel_rfl) (by kernel_rfl) (fun _ _ _ h => h) rfl (fun w => by go_simp) ?_
    try simp only [List.setIfInBounds_toArray, List.set_cons_zero, List.set_cons_succ]
    refine ready_f 4 (o := { dst := some 93, op := Op.call { callee := Callee.value (Operand.func 13), args := #[Operand.tmp 90, Operand.const (Value.string { data := #[100] }), Operand.tmp 92], argTypes := #[24, 9, 3] }, type := 9, pos := "law.go:122", after := #[{ on := 1, ground := Ground.data }, { on := 3, ground := Ground.data }], guard := none }) (by kernel_rfl) rfl (fun K hK => ?_)
    go_simp
    refine kP'.out.mono ?_
    rintro e w2 ⟨rfl, hr2, hb2⟩
    refine hK.out _ _ (fun _ h => ⟨h.1.but hb2 gb.1, h.2.but hb2 gb.2⟩) ?_
    clear hK K
    try simp only [Act.put, List.setIfInBounds_toArray, List.set_cons_zero, List.set_cons_succ]
    obtain ⟨J1, J2, J3, BT2⟩ := mid_next MID.out hr2 hb2 ld lg hne
    clear hr2 hb2
    refine take_p 6 95 (.bool true) rfl rfl (by kernel_rfl) (by kernel_rfl) (by kernel_rfl) (fun _ _ _ h => h) rfl (fun w => by go_simp) ?_
    try simp only [List.setIfInBounds_toArray, List.set_cons_zero, List.set_cons_succ]
    have H1J := hide1 J1
    have H2J := hide1 J2
    have H3J := hide1 J3
    have HB2 := hide1 BT2
    clear J1 J2 J3 BT2
    refine ready_f 7 (o := { dst := none, op := Op.store 27 (Operand.tmp 7) (Operand.tmp 89), type := 0, pos := "law.go:122", after := #[{ on := 0, ground := Ground.data }, { on := 4, ground := Ground.chain }, { on := 0, ground := Ground.phase }, { on := 1, ground := Ground.textOnly Departure.lateStores }, { on := 2, ground := Ground.textOnly Departure.lateStores }, { on := 3, ground := Ground.textOnly Departure.lateStores }, { on := 4, ground := Ground.textOnly Departure.lateStoresUnsure }, { on := 5, ground := Ground.textOnly Departure.lateStores }, { on := 6, ground := Ground.textOnly Departure.lateStores }], guard := none }) (by kernel_rfl) rfl (fun K hK => ?_)
    rw [if_pos (by rfl)]
    refine wp_store_row 27 _ _ rfl xb _ rfl rfl 27 _ H1J.out (by kernel_rfl) rfl (by kernel_rfl) ?_
    refine hK.out _ _ (fun _ h => ⟨h.1.row MID.out.nx _, h.2.row MID.out.cx _⟩) ?_
    clear hK K
    refine take_p 8 8 (.bool true) rfl rfl (by kernel_rfl) (by kernel_rfl) (by kernel_rfl) (fun _ _ _ h => h) rfl (fun w => by go_simp) ?_
    try simp only [List.setIfInBounds_toArray, List.set_cons_zero, List.set_cons_succ]
    refine done_f (by kernel_rfl) ?_ _
    generalize hW : World.setRow _ _ _ = W
    have BTW : Hid (Bt g dd w W) := by rw [← hW]; exact HB2.out.row_new MID.out.wx _
    have hn := hW ▸ setRow_heap w2 xb _ _ _ _ H1J.out
    have hdd : W.heap[dd]? = some (.cells #[.string s, .int .i64 (k : Int), .int .i64 c] 27 (0, 0)) := by rw [← hW]; exact (setRow_other _ xb dd _ (by have := MID.out.wx; omega)).trans H2J.out
    have hgg : W.heap[g]? = some (rdr s k1 c' f1) := by rw [← hW]; exact (setRow_other _ xb g _ (by have := MID.out.wx; omega)).trans H3J.out
    obtain ⟨n0, n1', n2', _, _, _, _⟩ := box3 hn
    obtain ⟨m0, m1, m2, p0', p1', p2', l5⟩ := box3 hdd
    have HDW := hide1 hdd
    have HGW := hide1 hgg
    clear hn hdd hgg hW H1J H2J H3J kP' hS HS2 MID HB2 gb
    go_upto_region 31 with (fail)
    generalize hV : World.setCell (World.setCell (World.setCell W _ _) _ _) _ _ = V
    have BTV : Hid (Bt g dd w V) := by rw [← hV]; exact ((BTW.out.trans (Bt.of_but' (But.set dd 0 _ _))).trans (Bt.of_but' (But.set dd 1 _ _))).trans (Bt.of_but' (But.set dd 2 _ _))
    have hd5 := hV ▸ set_box3 HDW.out
    have hg5 : V.heap[g]? = some (rdr s k1 c' f1) := by rw [← hV]; exact keep_box3 HGW.out hne
    obtain ⟨m0, m1, m2, _, _, _, l5⟩ := box3 hd5
    have HD5 := hide1 hd5
    have HG5 := hide1 hg5
    clear hd5 hg5 hV n0 n1' n2' p0' p1' p2'
    have HS : Shy (At3 dd (.string s) (.int .i64 (k1 : Int)) (.int .i64 c') V) := ⟨⟨m0, m1, m2⟩, l5⟩
    have kA := hide1 (at_any g k1 s f1 c' V.drew HG5.out)
    have kE := hide1 (err_is g k1 s f1 c' V.drew HG5.out)
    have ETV : Hid (F.Et V) := by
      have e := BTV.out.block 0 hw0 (by omega) (by omega)
      show V.cell? ⟨0, 0, none⟩ = _
      have h := HET.out
      unfold F.Et at h
      rw [← h]
      simp only [World.cell?, e]
    refine region_f (F := []) (S := At3 dd (.string s) (.int .i64 (k1 : Int)) (.int .i64 c')) (by kernel_rfl) HS.out (fun hS => ?_)
    refine take_p 0 170 (.bool true) rfl rfl (by kernel_rfl) (by kernel_rfl) (by kernel_rfl) (fun _ _ _ h => h) rfl (fun w => by go_simp) ?_
    try simp only [List.setIfInBounds_toArray, List.set_cons_zero, List.set_cons_succ]
    refine take_p 1 171 (.bool true) rfl rfl (by kernel_rfl) (by kernel_rfl) (by kernel_rfl) (fun _ _ _ h => h) rfl (fun w => by go_simp) ?_
    try simp only [List.setIfInBounds_toArray, List.set_cons_zero, List.set_cons_succ]
    refine take_p 2 172 (.pointer (some ⟨g, 0, none⟩)) rfl rfl (by kernel_rfl) (by kernel_rfl) (by kernel_rfl) (fun _ _ _ h => h) rfl (fun w => by go_simp) ?_
    try simp only [List.setIfInBounds_toArray, List.set_cons_zero, List.set_cons_succ]
    refine take_p 4 174 (.pointer (some ⟨dd, 0, none⟩)) rfl rfl (by kernel_rfl) (by kernel_rfl) (by kernel_rfl) (fun _ _ _ h => h) rfl (fun w => by go_simp) ?_
    try simp only [List.setIfInBounds_toArray, List.set_cons_zero, List.set_cons_succ]
    refine take_p 5 175 (.pointer (some ⟨dd, 0, none⟩)) rfl rfl (by kernel_rfl) (by kernel_rfl) (by kernel_rfl) (fun _ _ _ h => h) rfl (fun w => by go_simp) ?_
    try simp only [List.setIfInBounds_toArray, List.set_cons_zero, List.set_cons_succ]
    refine take_p 6 176 (.pointer (some ⟨dd, 1, none⟩)) rfl rfl (by kernel_rfl) (by kernel_rfl) (by kernel_rfl) (fun _ _ _ h => h) rfl (fun w => by go_simp) ?_
    try simp only [List.setIfInBounds_toArray, List.set_cons_zero, List.set_cons_succ]
    refine take_f 7 177 (.int .i64 (k1 : Int)) [8, 9, 10, 11, 12, 13, 14, 15, 16, 17, 18, 19, 20] rfl rfl (by kernel_rfl) (by kernel_rfl) (by kernel_rfl) (by kernel_rfl) (by kernel_rfl) (by kernel_rfl) (fun _ _ _ h => h) rfl (fun w hSw => by obtain ⟨⟨r0, r1, r2⟩, rl⟩ := hSw; go_simp) hS ?_
    try simp only [List.setIfInBounds_toArray, List.set_cons_zero, List.set_cons_succ]
    refine ready_f 3 (o := { dst := some 173, op := Op.call { callee := Callee.value (Operand.func 28), args := #[Operand.tmp 172], argTypes := #[24] }, type := 3, pos := "law.go:140", after := #[{ on := 2, ground := Ground.data }, { on := 1, ground := Ground.chain }, { on := 1, ground := Ground.guard }], guard := some (1, true) }) (by kernel_rfl) rfl (fun K hK => ?_)
    go_simp
    refine kA.out.mono ?_
    rintro e w' ⟨rfl, hw'⟩
    cases hw'
    refine hK.out _ _ (fun _ h => h) ?_
    clear hK K
    try simp only [Act.put, List.setIfInBounds_toArray, List.set_cons_zero, List.set_cons_succ]
    refine take_p 8 178 (.bool true) rfl rfl (by kernel_rfl) (by kernel_rfl) (by kernel_rfl) (fun _ _ _ h => h) rfl (fun w => by go_simp) ?_
    try simp only [List.setIfInBounds_toArray, List.set_cons_zero, List.set_cons_succ]
    refine take_p 9 179 (.bool true) rfl rfl (by kernel_rfl) (by kernel_rfl) (by kernel_rfl) (fun _ _ _ h => h) rfl (fun w => by go_simp) ?_
    try simp only [List.setIfInBounds_toArray, List.set_cons_zero, List.set_cons_succ]
    refine take_p 10 180 (.bool true) rfl rfl (by kernel_rfl) (by kernel_rfl) (by kernel_rfl) (fun _ _ _ h => h) rfl (fun w => by go_simp) ?_
    try simp only [List.setIfInBounds_toArray, List.set_cons_zero, List.set_cons_succ]
    refine take_p 11 181 (.pointer (some ⟨g, 0, none⟩)) rfl rfl (by kernel_rfl) (by kernel_rfl) (by kernel_rfl) (fun _ _ _ h => h) rfl (fun w => by go_simp) ?_
    try simp only [List.setIfInBounds_toArray, List.set_cons_zero, List.set_cons_succ]
    refine take_p 14 184 (.pointer (some ⟨dd, 0, none⟩)) rfl rfl (by kernel_rfl) (by kernel_rfl) (by kernel_rfl) (fun _ _ _ h => h) rfl (fun w => by go_simp) ?_
    try simp only [List.setIfInBounds_toArray, List.set_cons_zero, List.set_cons_succ]
    refine take_p 15 185 (.pointer (some ⟨dd, 0, none⟩)) rfl rfl (by kernel_rfl) (by kernel_rfl) (by kernel_rfl) (fun _ _ _ h => h) rfl (fun w => by go_simp) ?_
    try simp only [List.setIfInBounds_toArray, List.set_cons_zero, List.set_cons_succ]
    refine take_p 16 186 (.pointer (some ⟨dd, 2, none⟩)) rfl rfl (by kernel_rfl) (by kernel_rfl) (by kernel_rfl) (fun _ _ _ h => h) rfl (fun w => by go_simp) ?_
    try simp only [List.setIfInBounds_toArray, List.set_cons_zero, List.set_cons_succ]
    refine take_f 17 187 (.int .i64 c') [18, 19, 20] rfl rfl (by kernel_rfl) (by kernel_rfl) (by kernel_rfl) (by kernel_rfl) (by kernel_rfl) (by kernel_rfl) (fun _ _ _ h => h) rfl (fun w hSw => by obtain ⟨⟨r0, r1, r2⟩, rl⟩ := hSw; go_simp) hS ?_
    try simp only [List.setIfInBounds_toArray, List.set_cons_zero, List.set_cons_succ]
    refine ready_f 12 (o := { dst := some 182, op := Op.call { callee := Callee.value (Operand.func 29), args := #[Operand.tmp 181], argTypes := #[24] }, type := 66, pos := "law.go:140", after := #[{ on := 11, ground := Ground.data }, { on := 10, ground := Ground.chain }, { on := 10, ground := Ground.guard }], guard := some (10, true) }) (by kernel_rfl) rfl (fun K hK => ?_)
    go_simp
    refine kE.out.mono ?_
    rintro e w5 ⟨v, rfl, hv, hb5⟩
    refine hK.out _ _ (fun _ h => h.below hb5) ?_
    clear hK K
    try simp only [Act.put, List.setIfInBounds_toArray, List.set_cons_zero, List.set_cons_succ]
    have HV := hide1 hv
    have J1 := hide1 ((hb5.block _ (lt_heap HG5.out)).trans HG5.out)
    have J2 := hide1 ((hb5.block _ (lt_heap HD5.out)).trans HD5.out)
    have BT5 := hide1 (BTV.out.drew.trans (Bt.of_below hb5))
    have ET5 : Hid (F.Et w5) := (show F.Et V.drew from ETV.out).below hb5 (by have := BTV.out.size; show 0 < V.heap.size; omega)
    clear hv hb5
    refine ready_f 13 (o := { dst := some 183, op := Op.call { callee := Callee.value (Operand.func 24), args := #[Operand.tmp 182], argTypes := #[66] }, type := 40, pos := "law.go:140", after := #[{ on := 12, ground := Ground.data }, { on := 12, ground := Ground.chain }, { on := 10, ground := Ground.guard }], guard := some (10, true) }) (by kernel_rfl) rfl (fun K hK => ?_)
    go_simp
    refine (F.code_any w5 c' v ET5.out HV.out).mono ?_
    rintro e w6 ⟨rfl, hb6⟩
    refine hK.out _ _ (fun _ h => h.below hb6) ?_
    clear hK K
    try simp only [Act.put, List.setIfInBounds_toArray, List.set_cons_zero, List.set_cons_succ]
    have I1 := hide1 ((hb6.block _ (lt_heap J1.out)).trans J1.out)
    have I2 := hide1 ((hb6.block _ (lt_heap J2.out)).trans J2.out)
    have BT6 := hide1 (BT5.out.trans (Bt.of_below hb6))
    clear hb6
    refine take_p 18 188 (.bool true) rfl rfl (by kernel_rfl) (by kernel_rfl) (by kernel_rfl) (fun _ _ _ h => h) rfl (fun w => by go_simp) ?_
    try simp only [List.setIfInBounds_toArray, List.set_cons_zero, List.set_cons_succ]
    refine take_p 19 189 (.bool true) rfl rfl (by kernel_rfl) (by kernel_rfl) (by kernel_rfl) (fun _ _ _ h => h) rfl (fun w => by go_simp) ?_
    try simp only [List.setIfInBounds_toArray, List.set_cons_zero, List.set_cons_succ]
    refine take_p 20 6 (.bool true) rfl rfl (by kernel_rfl) (by kernel_rfl) (by kernel_rfl) (fun _ _ _ h => h) rfl (fun w => by go_simp) ?_
    try simp only [List.setIfInBounds_toArray, List.set_cons_zero, List.set_cons_succ]
    refine done_f (by kernel_rfl) ?_ _
    go_wp2
    go_ret
    exact ⟨rfl, I1.out, I2.out, BT6.out⟩

end Go.Proofs.YtmmhfipdolbinaaGreatDoor
