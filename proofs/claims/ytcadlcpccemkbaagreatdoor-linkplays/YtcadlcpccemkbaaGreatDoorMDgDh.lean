/- The document's Receive: its boxes. The document's Receive. -/
import Derived.Test.YtcadlcpccemkbaaGreatDoorDf
namespace Go.Proofs.YtcadlcpccemkbaaGreatDoor
open Go.RowKit
set_option maxRecDepth 100000
attribute [local go_sem] not_any

def F5 (g g4 g5 g6 g8 : Nat) (b : Nat) : Prop := b = g ∨ b = g4 ∨ b = g5 ∨ b = g6 ∨ b = g8
def zeroLink : Array Value := #[.int .u32 0, .int .u32 0, .bool false, .int .i64 0, .slice none 0 0, .int .i64 0, .int .i64 0, .slice none 0 0, .slice none 0 0, .bool false]
def gotC (bv : Value) (an : Bool) (c : Int) : Array Value := #[bv, .bool an, .int .i64 c]
def fraC (k o p q a : Int) (b : ByteArray) : Array Value := #[.int .i64 k, .int .u32 o, .int .u32 p, .int .u32 q, .int .u32 a, .string b]
/- an end on its way through Receive -/
structure Rbx (x : Ls) (LL : List ByteArray) (LLv hv lv : Value) (w : World) (g g4 g5 g6 g8 : Nat) (k o p q a : Int) (b : ByteArray) (y : Ls) (LL1 : List ByteArray) (L1 h1 l1 : Value) (bv : Value) (Bs : List ByteArray) (an : Bool) (c : Int) (W : World) : Prop where
  rw : Rw (F5 g g4 g5 g6 g8) x LL LLv hv lv w y LL1 L1 h1 l1 W
  bg : W.heap[g]? = some (.cells (rcs y L1 h1 l1) 39 (0, 0))
  b4 : W.heap[g4]? = some (.cells zeroLink 39 (0, 0))
  b5 : W.heap[g5]? = some (.cells (gotC (.slice none 0 0) false 0) 85 (0, 0))
  b6 : W.heap[g6]? = some (.cells (fraC k o p q a b) 42 (0, 0))
  b8 : W.heap[g8]? = some (.cells (gotC bv an c) 85 (0, 0))
  rd : Rdl W bv Bs
  rn : Bs ≠ [] → ∀ b, bv.ownBlock = some b → ¬ F5 g g4 g5 g6 g8 b
  rb : Bs ≠ [] → ∀ b, bv.ownBlock = some b → w.heap.size ≤ b
  ne : g < g4 ∧ g4 < g5 ∧ g5 < g6 ∧ g6 < g8
  ll : LL1.length ≤ LL.length
variable {x : Ls} {LL : List ByteArray} {LLv hv lv : Value} {w : World} {g g4 g5 g6 g8 : Nat} {k o p q a : Int} {b : ByteArray} {y : Ls} {LL1 : List ByteArray} {L1 h1 l1 bv : Value} {Bs : List ByteArray} {an : Bool} {c : Int} {W : World}
theorem Rbx.below (h : Rbx x LL LLv hv lv w g g4 g5 g6 g8 k o p q a b y LL1 L1 h1 l1 bv Bs an c W) {W' : World} (hb : Below W.heap.size W W') : Rbx x LL LLv hv lv w g g4 g5 g6 g8 k o p q a b y LL1 L1 h1 l1 bv Bs an c W' :=
  ⟨h.rw.below hb, (hb.block _ (lt_heap h.bg)).trans h.bg, (hb.block _ (lt_heap h.b4)).trans h.b4, (hb.block _ (lt_heap h.b5)).trans h.b5, (hb.block _ (lt_heap h.b6)).trans h.b6, (hb.block _ (lt_heap h.b8)).trans h.b8, h.rd.below hb (Nat.le_refl _), h.rn, h.rb, h.ne, h.ll⟩
/- another end in its place -/
theorem Rbx.row (h : Rbx x LL LLv hv lv w g g4 g5 g6 g8 k o p q a b y LL1 L1 h1 l1 bv Bs an c W) {y2 : Ls} {LL2 : List ByteArray} {L2 h2 l2 : Value} (hr : Rw (F5 g g4 g5 g6 g8) x LL LLv hv lv w y2 LL2 L2 h2 l2 W) (hl : LL2.length ≤ LL.length) :
    Rbx x LL LLv hv lv w g g4 g5 g6 g8 k o p q a b y2 LL2 L2 h2 l2 bv Bs an c (W.setRow g (rcs y2 L2 h2 l2)) := by
  obtain ⟨n1, n2, n3, n4⟩ := h.ne
  refine ⟨hr.row (.inl rfl) _, setRow_heap _ _ _ _ _ _ h.bg, ?_, ?_, ?_, ?_, h.rd.kp2 (kp_setRow _ _ _) fun hn b e e2 => h.rn hn b e (.inl e2), h.rn, h.rb, h.ne, hl⟩
  · rw [setRow_other _ _ _ _ (by omega)]; exact h.b4
  · rw [setRow_other _ _ _ _ (by omega)]; exact h.b5
  · rw [setRow_other _ _ _ _ (by omega)]; exact h.b6
  · rw [setRow_other _ _ _ _ (by omega)]; exact h.b8
/- a cell of its own -/
theorem Rbx.mark (h : Rbx x LL LLv hv lv w g g4 g5 g6 g8 k o p q a b y LL1 L1 h1 l1 bv Bs an c W) {y2 : Ls} (j : Nat) (v : Value) (hc : (rcs y L1 h1 l1).setIfInBounds j v = rcs y2 L1 h1 l1) (hk : y2.k = y.k) (hA : y2.A = y.A) (hl : y2.l = y.l) (hQ : y2.Q = y.Q) :
    Rbx x LL LLv hv lv w g g4 g5 g6 g8 k o p q a b y2 LL1 L1 h1 l1 bv Bs an c (W.setCell ⟨g, j, none⟩ v) := by
  rw [setCell_eq_setRow W g j _ _ (0, 0) v h.bg, hc]
  exact h.row (h.rw.mark hk hA hl hQ) h.ll
/- a row of its answer -/
theorem Rbx.got (h : Rbx x LL LLv hv lv w g g4 g5 g6 g8 k o p q a b y LL1 L1 h1 l1 bv Bs an c W) {bv2 : Value} {Bs2 : List ByteArray} {an2 : Bool} {c2 : Int} (j : Nat) (v : Value) (hc : (gotC bv an c).setIfInBounds j v = gotC bv2 an2 c2) (hr : Rdl W bv2 Bs2) (hn : Bs2 ≠ [] → ∀ b, bv2.ownBlock = some b → ¬ F5 g g4 g5 g6 g8 b) (hb2 : Bs2 ≠ [] → ∀ b, bv2.ownBlock = some b → w.heap.size ≤ b) :
    Rbx x LL LLv hv lv w g g4 g5 g6 g8 k o p q a b y LL1 L1 h1 l1 bv2 Bs2 an2 c2 (W.setCell ⟨g8, j, none⟩ v) := by
  obtain ⟨n1, n2, n3, n4⟩ := h.ne
  rw [setCell_eq_setRow W g8 j _ _ (0, 0) v h.b8, hc]
  refine ⟨h.rw.row (.inr (.inr (.inr (.inr rfl)))) _, ?_, ?_, ?_, ?_, setRow_heap _ _ _ _ _ _ h.b8, hr.kp2 (kp_setRow _ _ _) fun hn2 b e e2 => hn hn2 b e (.inr (.inr (.inr (.inr e2)))), hn, hb2, h.ne, h.ll⟩
  · rw [setRow_other _ _ _ _ (by omega)]; exact h.bg
  · rw [setRow_other _ _ _ _ (by omega)]; exact h.b4
  · rw [setRow_other _ _ _ _ (by omega)]; exact h.b5
  · rw [setRow_other _ _ _ _ (by omega)]; exact h.b6
theorem Rbx.gotA (h : Rbx x LL LLv hv lv w g g4 g5 g6 g8 k o p q a b y LL1 L1 h1 l1 bv Bs an c W) (an2 : Bool) : Rbx x LL LLv hv lv w g g4 g5 g6 g8 k o p q a b y LL1 L1 h1 l1 bv Bs an2 c (W.setCell ⟨g8, 1, none⟩ (.bool an2)) :=
  h.got 1 _ rfl h.rd h.rn h.rb
theorem Rbx.gotE (h : Rbx x LL LLv hv lv w g g4 g5 g6 g8 k o p q a b y LL1 L1 h1 l1 bv Bs an c W) (c2 : Int) : Rbx x LL LLv hv lv w g g4 g5 g6 g8 k o p q a b y LL1 L1 h1 l1 bv Bs an c2 (W.setCell ⟨g8, 2, none⟩ (.int .i64 c2)) :=
  h.got 2 _ rfl h.rd h.rn h.rb
/- what Receive leaves -/
def Rcv (x : Ls) (LL : List ByteArray) (LLv hv lv : Value) (w : World) (y : Ls) (Bs : List ByteArray) (an : Bool) (c : Int) (e : Ending) (W : World) : Prop :=
  ∃ LL1 L1 h1 l1 bv, e = .returned (.tuple #[rv y L1 h1 l1, .agg #[bv, .bool an, .int .i64 c]]) ∧ Rfp x LL LLv hv lv w y LL1 L1 h1 l1 W ∧ Rdl W bv Bs ∧ LL1.length ≤ LL.length ∧ (Bs ≠ [] → ∀ b, bv.ownBlock = some b → w.heap.size ≤ b)
theorem szG {cs : Array Value} (hs : cs.size = 3) : Option.map (fun x => x.size) (Tryz.prog.info? 85) = some cs.size := by
  have h : Option.map (fun x => x.size) (Tryz.prog.info? 85) = some 3 := by kernel_rfl
  rw [hs]
  exact h
theorem ret_lg {fn : Func} {p u : Tmp} (h : fn.results = #[.cell p 39, .cell u 85]) {R : Ending → World → Prop} {a : Act} {w : World} (g g5 : Nat) (cs gs : Array Value) (hs : cs.size = 10) (hgs : gs.size = 3) (hp : a.tmps.getD p undef = .pointer (some ⟨g, 0, none⟩))
    (hu : a.tmps.getD u undef = .pointer (some ⟨g5, 0, none⟩)) (hg : w.heap[g]? = some (.cells cs 39 (0, 0))) (hg5 : w.heap[g5]? = some (.cells gs 85 (0, 0))) (hd : a.defers = []) (hR : R (.returned (.tuple #[.agg cs, .agg gs])) w) : bodyPost Tryz.prog fn R .ret a w := by
  refine bodyPost_ret_by (v := .tuple #[.agg cs, .agg gs]) ?_ hd hR
  have hl := run_loadVar_row (P := Tryz.prog) w g 39 39 cs (0, 0) _ hg Tryz.underlying39 rfl (sz10 hs)
  have hl5 := run_loadVar_row (P := Tryz.prog) w g5 85 85 gs (0, 0) _ hg5 Tryz.underlying85 rfl (szG hgs)
  simp only [results, h]
  have hp' : a.tmps[p]?.getD undef = .pointer (some ⟨g, 0, none⟩) := by simpa using hp
  have hu' : a.tmps[u]?.getD undef = .pointer (some ⟨g5, 0, none⟩) := by simpa using hu
  simp [Sem.run_bind, Result.andThen, hp', hu', asAddr, hl, hl5]
/- lists that are none -/
theorem Rw.newly {F : Nat → Prop} (h : Rw F x LL LLv hv lv w y LL1 L1 h1 l1 W) (z : Ls) (hk : z.k = 0) (hA : z.A = []) (hl : z.l = []) (hQ : z.Q = []) : Rw F x LL LLv hv lv w z [] (.slice none 0 0) (.slice none 0 0) (.slice none 0 0) W := by
  have hno : ∀ b, ¬ Ro z [] (.slice none 0 0) (.slice none 0 0) (.slice none 0 0) b := fun b hb => by
    rcases hb with ⟨_, e⟩ | ⟨_, e⟩ | ⟨_, e⟩ <;> cases e
  refine ⟨⟨⟨none, 0, rfl, fun j hj => by simp at hj⟩, hl ▸ ⟨none, 0, rfl, fun j hj => by simp at hj⟩, hQ ▸ ⟨none, 0, rfl, fun j hj => by simp at hj⟩, by rw [hk]; exact Nat.le_refl _, by rw [hA, hk]; rfl, by simp, fun s hs => by simp at hs, Cp.nil⟩, h.bel, fun b hb => absurd hb (hno b), fun b hb => absurd hb (hno b), h.fb⟩
theorem Rw.outs {F : Nat → Prop} (h : Rw F x LL LLv hv lv w y LL1 L1 h1 l1 W) (z : Ls) (hk : z.k ≤ LL1.length) (hA : LL1.drop z.k = z.A) (hl : z.l = y.l) (hQ : z.Q = y.Q) : Rw F x LL LLv hv lv w z LL1 L1 h1 l1 W := by
  have hr : ∀ b, Ro z LL1 L1 h1 l1 b → Ro y LL1 L1 h1 l1 b := fun b hb => by unfold Ro at hb ⊢; rw [hl, hQ] at hb; exact hb
  exact ⟨⟨h.rf.ll, hl ▸ h.rf.hl, hQ ▸ h.rf.ql, hk, hA, h.rf.mx, h.rf.sz, h.rf.cp⟩, h.bel, fun b hb => h.ro b (hr b hb), fun b hb => h.nf b (hr b hb), h.fb⟩
theorem Rw.held {F : Nat → Prop} (h : Rw F x LL LLv hv lv w y LL1 L1 h1 l1 W) (z : Ls) {u : Value} (hu : Rnl W u z.l) (ho : z.l ≠ [] → ∀ b, u.ownBlock = some b → (h1.ownBlock = some b ∧ y.l ≠ []) ∨ (w.heap.size ≤ b ∧ ¬ F b)) (hk : z.k = y.k) (hA : z.A = y.A) (hQ : z.Q = y.Q) : Rw F x LL LLv hv lv w z LL1 L1 u l1 W := by
  have hr : ∀ b, Ro z LL1 L1 u l1 b → Ro y LL1 L1 h1 l1 b ∨ (w.heap.size ≤ b ∧ ¬ F b) := fun b hb => by
    rcases hb with hb | ⟨hb, e⟩ | hb
    · exact .inl (.inl hb)
    · rcases ho hb b e with ⟨e1, e2⟩ | e1
      · exact .inl (.inr (.inl ⟨e2, e1⟩))
      · exact .inr e1
    · rw [hQ] at hb
      exact .inl (.inr (.inr hb))
  refine ⟨⟨h.rf.ll, hu, hQ ▸ h.rf.ql, hk ▸ h.rf.le, by rw [hk, hA]; exact h.rf.eq, h.rf.mx, h.rf.sz, h.rf.cp⟩, h.bel, fun b hb => ?_, fun b hb => ?_, h.fb⟩
  · rcases hr b hb with h2 | h2
    · exact h.ro b h2
    · exact .inr h2.1
  · rcases hr b hb with h2 | h2
    · exact h.nf b h2
    · exact h2.2
/- what a return needs -/
structure Fin (x : Ls) (LL : List ByteArray) (LLv hv lv : Value) (w : World) (g4 g5 : Nat) (y : Ls) (Bs : List ByteArray) (an : Bool) (c : Int) (W : World) (RY GY : Array Value) : Prop where
  b4 : W.heap[g4]? = some (.cells zeroLink 39 (0, 0))
  sz : Option.map (fun x => x.size) (Tryz.prog.info? 39) = some RY.size
  c4 : zeroLink.size = RY.size
  one : RY.all (·.oneCell') = true
  s10 : RY.size = 10
  b5 : (W.setRow g4 RY).heap[g5]? = some (.cells (gotC (.slice none 0 0) false 0) 85 (0, 0))
  szg : Option.map (fun x => x.size) (Tryz.prog.info? 85) = some GY.size
  c5 : (gotC (.slice none 0 0) false 0).size = GY.size
  oneg : GY.all (·.oneCell') = true
  s3 : GY.size = 3
  f4 : ((W.setRow g4 RY).setRow g5 GY).heap[g4]? = some (.cells RY 39 (0, 0))
  f5 : ((W.setRow g4 RY).setRow g5 GY).heap[g5]? = some (.cells GY 85 (0, 0))
  rcv : Rcv x LL LLv hv lv w y Bs an c (.returned (.tuple #[.agg RY, .agg GY])) ((W.setRow g4 RY).setRow g5 GY)
theorem fin_of {F : Nat → Prop} (hr : Rw F x LL LLv hv lv w y LL1 L1 h1 l1 W) (F4 : F g4) (F5 : F g5) (n : g4 < g5) (b4 : W.heap[g4]? = some (.cells zeroLink 39 (0, 0))) (b5 : W.heap[g5]? = some (.cells (gotC (.slice none 0 0) false 0) 85 (0, 0)))
    (rd : Rdl W bv Bs) (rn : Bs ≠ [] → ∀ b, bv.ownBlock = some b → ¬ F b) (rb : Bs ≠ [] → ∀ b, bv.ownBlock = some b → w.heap.size ≤ b) (ll : LL1.length ≤ LL.length) (an : Bool) (c : Int) : Fin x LL LLv hv lv w g4 g5 y Bs an c W (rcs y L1 h1 l1) (gotC bv an c) := by
  have e5 : (W.setRow g4 (rcs y L1 h1 l1)).heap[g5]? = some (.cells (gotC (.slice none 0 0) false 0) 85 (0, 0)) := by rw [setRow_other _ _ _ _ (by omega)]; exact b5
  refine ⟨b4, sz10 rfl, rfl, rcs_one y hr.rf, rfl, e5, szG rfl, rfl, ?_, rfl, ?_, setRow_heap _ _ _ _ _ _ e5, LL1, L1, h1, l1, bv, rfl, ((hr.row F4 _).row F5 _).fin, ?_, ll, rb⟩
  · obtain ⟨_, _, rfl, _⟩ := rd
    unfold gotC
    simp [Value.oneCell']
  · rw [setRow_other _ _ _ _ (by omega)]
    exact setRow_heap _ _ _ _ _ _ b4
  · exact (rd.kp2 (kp_setRow _ _ _) fun hn b e e2 => rn hn b e (e2 ▸ F4)).kp2 (kp_setRow _ _ _) fun hn b e e2 => rn hn b e (e2 ▸ F5)
theorem Rbx.use (h : Rbx x LL LLv hv lv w g g4 g5 g6 g8 k o p q a b y LL1 L1 h1 l1 bv Bs an c W) : Fin x LL LLv hv lv w g4 g5 y Bs an c W (rcs y L1 h1 l1) (gotC bv an c) :=
  fin_of h.rw (.inr (.inl rfl)) (.inr (.inr (.inl rfl))) h.ne.2.1 h.b4 h.b5 h.rd h.rn h.rb h.ll an c
theorem take_open {x : Ls} {k o p q a : Nat} {b : ByteArray} {y2 : Ls} (h1 : ¬ o < x.peer) (h2 : p = x.own) (h3 : y2 = (x.meet o).sured k) : y2.openX k q a b = x.takeX k o p q a b ∧ y2.openB k q a b = x.takeB k o p q a b ∧ y2.openC k q a = x.takeC k o p q a := by
  have h4 : ¬ p ≠ x.own := fun h => h h2
  unfold Ls.takeX Ls.takeB Ls.takeC
  rw [if_neg h1, if_neg h1, if_neg h1, if_neg h4, if_neg h4, if_neg h4, h3]
  exact ⟨rfl, rfl, rfl⟩
theorem take_open1 {x : Ls} {k o p q a : Nat} {b : ByteArray} {y2 : Ls} (h1 : ¬ o < x.peer) (h2 : p = x.own) (h3 : y2 = (x.meet o).sured k) (hk : k = 1) : y2 = x.takeX k o p q a b ∧ [] = x.takeB k o p q a b ∧ (0 : Int) = (x.takeC k o p q a : Int) := by
  obtain ⟨e1, e2, e3⟩ := take_open (q := q) (a := a) (b := b) h1 h2 h3
  rw [← e1, ← e2, ← e3]
  unfold Ls.openX Ls.openB Ls.openC
  rw [if_pos hk, if_pos hk, if_pos hk]
  exact ⟨rfl, rfl, rfl⟩
theorem take_openK {x : Ls} {k o p q a : Nat} {b : ByteArray} {y2 : Ls} (h1 : ¬ o < x.peer) (h2 : p = x.own) (h3 : y2 = (x.meet o).sured k) (hk : k ≠ 1) (h : akC y2.k y2.A a ≠ 0 ∨ k = 3) : y2.acked a = x.takeX k o p q a b ∧ [] = x.takeB k o p q a b ∧ (akC y2.k y2.A a : Int) = (x.takeC k o p q a : Int) := by
  obtain ⟨e1, e2, e3⟩ := take_open (q := q) (a := a) (b := b) h1 h2 h3
  rw [← e1, ← e2, ← e3]
  unfold Ls.openX Ls.openB Ls.openC
  rw [if_neg hk, if_neg hk, if_neg hk, if_pos h, if_pos h, if_pos h]
  exact ⟨rfl, rfl, rfl⟩
theorem take_openM {x : Ls} {k o p q a : Nat} {b : ByteArray} {y2 : Ls} (h1 : ¬ o < x.peer) (h2 : p = x.own) (h3 : y2 = (x.meet o).sured k) (hk : k = 2) (h : akC y2.k y2.A a = 0) (y4 : Ls) (B4 : List ByteArray) (xc : Nat) (k1 : y4 = { (y2.acked a) with a := tkA (y2.acked a).a (y2.acked a).l q b, l := tkR (y2.acked a).a (y2.acked a).l q b }) (k2 : B4 = tkO y2.a y2.l q b) (k3 : xc = chkC y2.a (lk y2.l) q) :
    y4 = x.takeX k o p q a b ∧ B4 = x.takeB k o p q a b ∧ (xc : Int) = (x.takeC k o p q a : Int) := by
  obtain ⟨e1, e2, e3⟩ := take_open (q := q) (a := a) (b := b) h1 h2 h3
  rw [← e1, ← e2, ← e3, k1, k2, k3]
  unfold Ls.openX Ls.openB Ls.openC
  have n1 : ¬ k = 1 := by omega
  have n2 : ¬ (akC y2.k y2.A a ≠ 0 ∨ k = 3) := by omega
  rw [if_neg n1, if_neg n1, if_neg n1, if_neg n2, if_neg n2, if_neg n2]
  exact ⟨rfl, rfl, rfl⟩
end Go.Proofs.YtcadlcpccemkbaaGreatDoor

namespace Go.Proofs.YtcadlcpccemkbaaGreatDoor
open Go.RowKit
set_option maxRecDepth 100000
attribute [local go_sem] not_any

set_option maxHeartbeats 4000000 in
theorem rrecv_bad (x : Ls) (LL : List ByteArray) (LLv hv lv : Value) (w : World) (t : ByteArray) (c : Int) (hc : c ≠ 0) (h : Rf x LL LLv hv lv w) (kD : ∀ w, Hid (Calls Tryz.prog 59 #[.string t] w fun e w' => e = .returned (.tuple #[.agg (fraC 0 0 0 0 0 ⟨#[]⟩), .int .i64 c]) ∧ Below w.heap.size w w')) :
    Calls Tryz.prog 31 #[rv x LLv hv lv, .string t] w fun e w' => Rcv x LL LLv hv lv w x [] false c e w' := by
  obtain ⟨Q, hQ⟩ : ∃ Q : Ending → World → Prop, Q = fun e w' => Rcv x LL LLv hv lv w x [] false c e w' := ⟨_, rfl⟩
  have HQ : Hid (∀ y Bs an c2 e w', y = x → Bs = [] → an = false → c2 = c → Rcv x LL LLv hv lv w y Bs an c2 e w' → Q e w') := fun y Bs an c2 e w' e1 e2 e3 e4 hh => by subst e1 e2 e3 e4; rw [hQ]; exact hh
  suffices hs : Calls Tryz.prog 31 #[rv x LLv hv lv, .string t] w fun e w' => Q e w' by rw [hQ] at hs; exact hs
  clear hQ
  obtain ⟨g, hg⟩ : ∃ g, w.heap.size = g := ⟨_, rfl⟩
  have HF := hide1 h
  unfold rv
  have cE : ∀ y L h l, rcs y L h l = #[.int .u32 (y.own : Int), .int .u32 (y.peer : Int), .bool y.sure, .int .i64 0, L, .int .i64 (y.k : Int), .int .i64 ((y.a : Int) + 1), h, l, .bool y.owed] := fun _ _ _ _ => rfl
  rw [cE]
  clear h cE
  go_enter Tryz.func31, Tryz.ntmps31
  go_upto_region 1 with (fail)
  generalize hW : World.alloc (World.alloc (World.alloc w _) _) _ = W0
  have G4 : Hid (w.heap.size + 1 = g + 1 ∧ g + 1 < g + 1 + 1) := ⟨by rw [hg], by omega⟩
  have bel0 : Below w.heap.size w W0 := by rw [← hW]; exact (((Below.refl _ _).alloc (Nat.le_refl _) _).alloc (by simp) _).alloc (by simp <;> omega) _
  have BG0 : Hid (W0.heap[g]? = some (.cells (rcs x LLv hv lv) 39 (0, 0))) := by
    unfold Hid
    rw [← hW, ← hg]
    exact ((below1 _).block _ (by simp <;> omega)).trans (heap_alloc2_old w _ _)
  have B40 : Hid (W0.heap[g + 1]? = some (.cells zeroLink 39 (0, 0))) := by
    unfold Hid
    rw [← hW, ← hg]
    exact ((below1 _).block _ (by simp <;> omega)).trans (heap_alloc2_new w _ _)
  have B50 : Hid (W0.heap[g + 1 + 1]? = some (.cells (gotC (.slice none 0 0) false 0) 85 (0, 0))) := by
    unfold Hid
    have e : ((w.alloc (.cells (rcs x LLv hv lv) 39)).alloc (.cells zeroLink 39)).heap.size = g + 1 + 1 := by simp [hg]
    rw [← hW, ← e]
    exact heap_alloc_new _ _
  have RW0 : Hid (Rw (fun b => b = g ∨ b = g + 1 ∨ b = g + 1 + 1) x LL LLv hv lv w x LL LLv hv lv W0) := by
    have h1 : ∀ b, b = g ∨ b = g + 1 ∨ b = g + 1 + 1 → w.heap.size ≤ b := fun b hb => by omega
    exact ⟨HF.out.below bel0, bel0, fun _ hb => .inl hb, fun b hb hF => by have h2 := HF.out.lt hb; have h3 := h1 b hF; omega, fun b hb => ⟨h1 b hb, by have := lt_heap B50.out; omega⟩⟩
  obtain ⟨g4, hg4⟩ : ∃ g4, g + 1 = g4 := ⟨_, rfl⟩
  obtain ⟨g5, hg5⟩ : ∃ g5, g4 + 1 = g5 := ⟨_, rfl⟩
  have G45 : Hid (g < g4 ∧ g4 < g5) := ⟨by omega, by omega⟩
  rw [hg4] at B40
  rw [hg4, hg5] at B50
  rw [hg4, hg5] at RW0
  rw [hg4, hg5]
  clear hW G4 hg hg4 hg5 bel0
  go_wp2_with (fail)
  refine (kD _).out.mono ?_
  rintro e W1 ⟨rfl, hb1⟩
  have RW1 := hide1 (RW0.out.below hb1)
  have BG1 := hide1 ((hb1.block _ (lt_heap BG0.out)).trans BG0.out)
  have B41 := hide1 ((hb1.block _ (lt_heap B40.out)).trans B40.out)
  have B51 := hide1 ((hb1.block _ (lt_heap B50.out)).trans B50.out)
  clear hb1 BG0 B40 B50 RW0 kD
  go_upto_region 2 with (first | (refine wpList_store_row rfl 42 (.tmp 6) (.tmp 16) rfl W1.heap.size (fraC 0 0 0 0 0 ⟨#[]⟩) rfl rfl 42 _ (heap_alloc_new W1 _) (by kernel_rfl) rfl (by simp [fraC, Value.oneCell']) ?_) | fail)
  generalize hW : World.setRow (World.alloc W1 _) _ _ = W2
  have b12 : Below W1.heap.size W1 W2 := by rw [← hW]; exact below_setRow (below1 _) (Nat.le_refl _) _
  have B6 : Hid (W2.heap[W1.heap.size]? = some (.cells (fraC 0 0 0 0 0 ⟨#[]⟩) 42 (0, 0))) := by unfold Hid; rw [← hW]; exact setRow_heap _ _ _ _ _ _ (heap_alloc_new W1 _)
  have RWP := RW1.out.below b12
  have BG2 := hide1 ((b12.block _ (lt_heap BG1.out)).trans BG1.out)
  have B42 := hide1 ((b12.block _ (lt_heap B41.out)).trans B41.out)
  have B52 := hide1 ((b12.block _ (lt_heap B51.out)).trans B51.out)
  obtain ⟨g6, hg6⟩ : ∃ g6, W1.heap.size = g6 := ⟨_, rfl⟩
  have G6 : Hid (g5 < g6 ∧ g6 < W2.heap.size ∧ w.heap.size ≤ g6) := ⟨by have := lt_heap B51.out; omega, by have := lt_heap B6.out; omega, by have := RW1.out.bel.size; omega⟩
  have HNF : ∀ b, Ro x LL LLv hv lv b → ¬ b = g6 := fun b hb e => by have h1 := RW1.out.rf.lt hb; omega
  have NE : Hid (g < g4 ∧ g4 < g5 ∧ g5 < g6 ∧ g6 < W2.heap.size) := ⟨G45.out.1, G45.out.2, G6.out.1, G6.out.2.1⟩
  have RW2 : Hid (Rw (F5 g g4 g5 g6 g6) x LL LLv hv lv w x LL LLv hv lv W2) := by
    refine ⟨RWP.rf, RWP.bel, RWP.ro, fun b hb hF => ?_, fun b hb => ?_⟩
    · rcases hF with e | e | e | e | e
      · exact RWP.nf b hb (.inl e)
      · exact RWP.nf b hb (.inr (.inl e))
      · exact RWP.nf b hb (.inr (.inr e))
      · exact HNF b hb e
      · exact HNF b hb e
    · rcases hb with e | e | e | e | e
      · exact RWP.fb b (.inl e)
      · exact RWP.fb b (.inr (.inl e))
      · exact RWP.fb b (.inr (.inr e))
      · subst e; exact ⟨G6.out.2.2, G6.out.2.1⟩
      · subst e; exact ⟨G6.out.2.2, G6.out.2.1⟩
  rw [hg6] at B6 ⊢
  clear hW b12 RWP HNF hg6 RW1 BG1 B41 B51

  have g2 : ((c : Int) != 0) = true := by simp [hc]
  clear hc
  have FN := hide1 (fin_of (bv := .slice none 0 0) (Bs := []) RW2.out (.inr (.inl rfl)) (.inr (.inr (.inl rfl))) NE.out.2.1 B42.out B52.out ⟨none, 0, rfl, fun j hj => by simp at hj⟩ (fun h => absurd rfl h) (fun h => absurd rfl h) (Nat.le_refl _) false c)
  have BGF := hide1 BG2.out
  generalize rcs _ _ _ _ = RY at FN BGF
  go_wp2_with (first | (refine wpList_load_row rfl 39 (.tmp 2) rfl g rfl 39 RY (0, 0) _ BGF.out Tryz.underlying39 rfl FN.out.sz ?_) | (refine wpList_store_row rfl 39 (.tmp 4) (.tmp 20) rfl g4 RY rfl rfl 39 _ FN.out.b4 FN.out.sz FN.out.c4 FN.out.one ?_) | (refine wpList_store_row rfl 85 (.tmp 5) (.tmp 22) rfl g5 (gotC (.slice none 0 0) false c) rfl rfl 85 _ FN.out.b5 FN.out.szg FN.out.c5 FN.out.oneg ?_) | fail)
  exact ret_lg Tryz.results31 g4 g5 RY (gotC (.slice none 0 0) false c) FN.out.s10 FN.out.s3 rfl rfl FN.out.f4 FN.out.f5 rfl (HQ.out _ _ _ _ _ _ rfl rfl rfl rfl FN.out.rcv)

end Go.Proofs.YtcadlcpccemkbaaGreatDoor
