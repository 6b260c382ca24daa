/- LinkPlays: every call of both. How the calls are opened. -/
import Derived.Test.YtcadlcpccemkbaaGreatDoorHb
import Derived.Test.YtcadlcpccemkbaaGreatDoorHc
import Derived.Test.YtcadlcpccemkbaaGreatDoorHd
import Derived.Test.YtcadlcpccemkbaaGreatDoorHe
import Derived.Test.YtcadlcpccemkbaaGreatDoorMQdVaVpVs
namespace Go.Proofs.YtcadlcpccemkbaaGreatDoor
open Go.RowKit
set_option maxRecDepth 100000
attribute [local go_sem] not_any

theorem does_any {N B s gr n M : Nat} {x : Ls} {w : World} (h : Dv B s gr n x M w) (hx : x.Ok N) (hN : N + 1000 < 4294967296) (hn : n < 1000000) (hM : M ≤ 900) (kd : Int) (body : ByteArray) (hb : body.size ≤ 1000) (fk : Int) (fo fp fq fa : Nat) (fb : ByteArray) (hfb : fb.size ≤ 1000) (ho : fo < 4294967296) (hp : fp < 4294967296) (hq : fq < 4294967296) (ha : fa < 4294967296) :
    Calls Tryz.prog 9 #[.pointer (some ⟨s, 0, none⟩), .pointer (some ⟨gr, 0, none⟩), .agg #[.int .i64 kd, .string body, .int .i64 fk, .int .u32 (fo : Int), .int .u32 (fp : Int), .int .u32 (fq : Int), .int .u32 (fa : Int), .string fb]] w fun e w' => e = .returned (.bool true) ∧ ∃ y, y.Ok (N + 16) ∧ Dv B s gr (n + 1) y (M + 1) w' ∧ Below B w w' := by
  rcases (show kd = 0 ∨ kd = 1 ∨ kd = 2 ∨ (kd ≠ 0 ∧ kd ≠ 1 ∧ kd ≠ 2) by omega) with h1 | h1 | h1 | h1
  · exact does_0 h hx hN hn hM kd body hb fk fo fp fq fa fb h1
  · exact does_1 h hx hN hn hM kd body hb fk fo fp fq fa fb h1
  · exact does_2 h hx hN hn hM kd body hb fk fo fp fq fa fb h1
  · exact does_3 h hx hN hn hM kd body hb fk fo fp fq fa fb h1 hfb ho hp hq ha

/- the calls, in memory -/
def Acs (W : World) (len : Nat) (a : Option Addr) : Prop := ∀ j, j < len → ∃ g o, ∃ (kd : Int) (body : ByteArray) (fk : Int) (fo fp fq fa : Nat) (fb : ByteArray), a = some ⟨g, o, none⟩ ∧ fo < 4294967296 ∧ fp < 4294967296 ∧ fq < 4294967296 ∧ fa < 4294967296 ∧
  (W.cell? ⟨g, o + j * 8, none⟩ = some (.int .i64 kd) ∧ W.cell? ⟨g, o + j * 8 + 1, none⟩ = some (.string body) ∧ W.cell? ⟨g, o + j * 8 + 2, none⟩ = some (.int .i64 fk) ∧ W.cell? ⟨g, o + j * 8 + 3, none⟩ = some (.int .u32 (fo : Int))) ∧
  (W.cell? ⟨g, o + j * 8 + 4, none⟩ = some (.int .u32 (fp : Int)) ∧ W.cell? ⟨g, o + j * 8 + 5, none⟩ = some (.int .u32 (fq : Int)) ∧ W.cell? ⟨g, o + j * 8 + 6, none⟩ = some (.int .u32 (fa : Int)) ∧ W.cell? ⟨g, o + j * 8 + 7, none⟩ = some (.string fb))
theorem Acs.below {W W' : World} {len : Nat} {a : Option Addr} (h : Acs W len a) (hb : Below W.heap.size W W') : Acs W' len a := fun j hj => by
  obtain ⟨g, o, kd, body, fk, fo, fp, fq, fa, fb, e, z1, z2, z3, z4, ⟨c0, c1, c2, c3⟩, c4, c5, c6, c7⟩ := h j hj
  have hg : g < W.heap.size := World.block_lt_of_cell? W _ c0
  exact ⟨g, o, kd, body, fk, fo, fp, fq, fa, fb, e, z1, z2, z3, z4, ⟨(hb.cell (p := ⟨g, _, none⟩) hg).trans c0, (hb.cell (p := ⟨g, _, none⟩) hg).trans c1, (hb.cell (p := ⟨g, _, none⟩) hg).trans c2, (hb.cell (p := ⟨g, _, none⟩) hg).trans c3⟩, (hb.cell (p := ⟨g, _, none⟩) hg).trans c4, (hb.cell (p := ⟨g, _, none⟩) hg).trans c5, (hb.cell (p := ⟨g, _, none⟩) hg).trans c6, (hb.cell (p := ⟨g, _, none⟩) hg).trans c7⟩

/- none starts at zero -/
theorem lnew_zero (w : World) : Calls Tryz.prog 5 #[.int .u32 0] w fun e w' => ∃ z, e = .returned (.tuple #[.pointer none, z]) ∧ Erl w' 20 z ∧ Below w.heap.size w w' := by
  have k := fun w => hide1 (fnew_any 20 w)
  go_enter Tryz.func5, Tryz.ntmps5
  go_wp2_with (fail)
  refine (k _).out.mono ?_
  rintro e w1 ⟨z, rfl, hz, hb, _⟩
  go_wp2
  exact ret_t2 Tryz.results5 rfl rfl rfl ⟨z, rfl, hz.erl, hb⟩

set_option maxHeartbeats 4000000 in
theorem plays_zero (w : World) (av : Value) (he : F.Et w) :
    Calls Tryz.prog 3 #[.int .u32 0, av] w fun e w' => e = .returned (.bool true) ∧ Below w.heap.size w w' := by
  have kA := fun w => hide1 (awake_any w)
  have kN := fun w => hide1 (lnew_zero w)
  have HET := hide1 he
  clear he
  go_enter Tryz.func3, Tryz.ntmps3
  go_wp2_with (fail)
  refine (kN _).out.mono ?_
  rintro e w1 ⟨z, rfl, hz, hb1⟩
  have kC := hide1 (code_erl w1 20 z (HET.out.below hb1 HET.out.pos) hz)
  have HB1 := hide1 hb1
  clear hz hb1 kN
  go_wp2_with (fail)
  refine kC.out.mono ?_
  rintro e w2 ⟨rfl, hb2⟩
  have HB2 := hide1 (HB1.out.trans (hb2.mono HB1.out.size))
  clear hb2
  go_wp2_with (fail)
  refine (kA _).out.mono ?_
  rintro e w3 ⟨rfl, hb3⟩
  have HB3 := hide1 (HB2.out.trans (hb3.mono HB2.out.size))
  clear hb3
  go_wp2
  go_ret
  exact ⟨rfl, HB3.out⟩
theorem Dv.mono {B s gr n n' M M' : Nat} {x : Ls} {W : World} (h : Dv B s gr n x M W) (hn : n ≤ n') (hM : M ≤ M') : Dv B s gr n' x M' W := by
  obtain ⟨v, m, u, LL, LLv, hv, lv, hD, hbox, hsum⟩ := h
  exact ⟨v, m, u, LL, LLv, hv, lv, ⟨hD.lk.mono hn, hD.rf, hD.et, hD.pos, hD.rl, hD.bs⟩, hbox, by omega⟩
theorem Dv.size {B s gr n M : Nat} {x : Ls} {W : World} (h : Dv B s gr n x M W) : B ≤ W.heap.size := by
  obtain ⟨v, m, u, LL, LLv, hv, lv, hD, _⟩ := h
  exact hD.size
theorem lf0 (s g : Nat) : Lf s (.slice none 0 0) (.map none) (.slice none 0 0) g ↔ g = s := by
  constructor
  · rintro (h | h | h | h)
    · exact h
    · cases h
    · cases h
    · cases h
  · exact fun h => .inl h
theorem dv0 {s gr own : Nat} {W : World} (hl : Lkm s s (.slice none 0 0) (.map none) (.slice none 0 0) 0 (Ls.new own) W) (he : F.Et W) (h0 : 0 < s) (hg : s < gr) (hr : W.heap[gr]? = some (.cells (rcs (Ls.new own) (.slice none 0 0) (.slice none 0 0) (.slice none 0 0)) 39 (0, 0))) : Dv s s gr 0 (Ls.new own) 0 W := by
  have hno : ∀ b, ¬ Ro (Ls.new own) [] (.slice none 0 0) (.slice none 0 0) (.slice none 0 0) b := fun b hb => by
    rcases hb with ⟨_, e⟩ | ⟨_, e⟩ | ⟨_, e⟩ <;> cases e
  refine ⟨_, _, _, [], _, _, _, ⟨hl, ⟨⟨none, 0, rfl, fun j hj => by simp at hj⟩, ⟨none, 0, rfl, fun j hj => by simp [Ls.new] at hj⟩, ⟨none, 0, rfl, fun j hj => by simp [Ls.new] at hj⟩, Nat.le_refl _, rfl, by simp, fun s hs => by simp at hs, Cp.nil⟩, he, h0, fun b hb => absurd hb (hno b), fun b hb => ?_⟩, hr, by simp [Ls.new]⟩
  subst hb
  exact ⟨by omega, lt_heap hr, fun e => by have := (lf0 _ _).1 e; omega, hno _⟩

set_option maxHeartbeats 8000000 in
theorem plays_pos (own : Nat) (h0 : 0 < own) (ho : own < 4294967296) (w : World) (a : Option Addr) (len cap : Nat) (h : Acs w len a) (he : F.Et w) :
    Calls Tryz.prog 3 #[.int .u32 (own : Int), .slice a len cap] w fun e w' => e = .returned (.bool true) ∧ Below w.heap.size w w' := by
  have HM := hide1 h
  have HET := hide1 he
  have HOWN := hide1 (And.intro h0 ho)
  have kA := fun w => hide1 (awake_any w)
  have kN := fun w => hide1 (lnew_any own h0 w)
  have kR := fun w => hide1 (rnew_any own w)
  have g0 : ((own : Int) == 0) = false := by simp; omega
  clear h he h0 ho
  go_enter Tryz.func3, Tryz.ntmps3
  go_wp2_with fail
  refine (kN _).out.mono ?_
  rintro x9 W1 ⟨rfl, M1, B1⟩
  obtain ⟨s, hs⟩ : ∃ s, w.heap.size = s := ⟨_, rfl⟩
  have HS := hide1 hs
  rw [hs] at M1
  try rw [hs]
  have HM1 := hide1 M1
  have HB1 : Hid (Below s w W1) := hs ▸ B1
  clear M1 B1 hs kN
  go_wp2_with fail
  refine (kR _).out.mono ?_
  rintro x9 W2 ⟨rfl, hb2⟩
  have HM2 := hide1 (HM1.out.below hb2 (Nat.le_refl _))
  have HB2 : Hid (Below s w W2) := HB1.out.trans (hb2.mono (by have := lt_heap HM1.out.row; omega))
  clear hb2 kR HM1 HB1
  have ON : Hid ((rcs (Ls.new own) (.slice none 0 0) (.slice none 0 0) (.slice none 0 0)).all (·.oneCell') = true) := by
    unfold Hid rcs Ls.new
    simp [Value.oneCell']
  have SZ : Hid (Option.map (fun x => x.size) (Tryz.prog.info? 39) = some (rcs (Ls.new own) (.slice none 0 0) (.slice none 0 0) (.slice none 0 0)).size) := sz10 rfl
  go_upto_region 7 with (first | (refine wpList_store_row rfl 39 (.tmp 7) (.tmp 33) rfl W2.heap.size (rcs (Ls.new own) (.slice none 0 0) (.slice none 0 0) (.slice none 0 0)) rfl rfl 39 _ (heap_alloc_new W2 _) SZ.out rfl ON.out ?_) | fail)
  generalize hX : World.setRow (World.alloc W2 _) _ _ = W3
  have b23 : Below W2.heap.size W2 W3 := by rw [← hX]; exact below_setRow (below1 _) (Nat.le_refl _) _
  have HR3 : Hid (W3.heap[W2.heap.size]? = some (.cells (rcs (Ls.new own) (.slice none 0 0) (.slice none 0 0) (.slice none 0 0)) 39 (0, 0))) := by unfold Hid; rw [← hX]; exact setRow_heap _ _ _ _ _ _ (heap_alloc_new W2 _)
  obtain ⟨gr, hgr⟩ : ∃ g, W2.heap.size = g := ⟨_, rfl⟩
  have HB3 : Hid (Below s w W3) := HB2.out.trans (b23.mono (by have := lt_heap HM2.out.row; omega))
  have D3 : Hid (Dv s s gr 0 (Ls.new own) 0 W3) := by
    refine dv0 (HM2.out.below b23 (Nat.le_refl _)) (HET.out.below HB3.out (by rw [← HS.out]; exact HET.out.pos)) (by rw [← HS.out]; exact HET.out.pos) (by have := lt_heap HM2.out.row; omega) ?_
    rw [← hgr]
    exact HR3.out
  rw [hgr]
  clear hX hgr b23 HR3 HM2 HB2 ON SZ
  go_wp2_with fail
  go_loopw [8] (fun i wr => ∃ (j : Nat), j ≤ 60 ∧ i = .int .i64 (j : Int) ∧ ∃ x : Ls, x.Ok (16 * j + 16) ∧ Dv s s gr j x j wr ∧ Below s w wr) (fun i _ => 200 - (intOf i).toNat)
  case atStart => exact ⟨0, by omega, rfl, _, Ls.Ok.new HOWN.out.1 HOWN.out.2 _, D3.out, HB3.out⟩
  case round =>
    obtain ⟨j, hj, rfl, x, hOK, hD, hB⟩ := hrel
    have HOK := hide1 hOK
    have HD := hide1 hD
    have HB := hide1 hB
    clear hOK hD hB
    by_cases hjl : j < len
    · have gin : (j : Int) < (len : Int) := by omega
      by_cases hj60 : j < 60
      · have gin2 : (j : Int) < 60 := by omega
        obtain ⟨g, o, kd, body, fk, fo, fp, fq, fa, fb, rfl, z1, z2, z3, z4, ⟨c0, c1, c2, c3⟩, c4, c5, c6, c7⟩ := HM.out.below (HS.out ▸ HB.out) j hjl
        have Z := hide1 (And.intro z1 (And.intro z2 (And.intro z3 z4)))
        clear z1 z2 z3 z4
        by_cases hbd : body.size ≤ 1000
        · have hbi : ¬ (1000 : Int) < (body.size : Int) := by omega
          by_cases hfb : fb.size ≤ 1000
          · have hfi : ¬ (1000 : Int) < (fb.size : Int) := by omega
            have kD := hide1 (does_any HD.out HOK.out (by omega) (by omega) (by omega) kd body hbd fk fo fp fq fa fb hfb Z.out.1 Z.out.2.1 Z.out.2.2.1 Z.out.2.2.2)
            clear hbd hfb
            go_wp2_with fail
            refine kD.out.mono ?_
            rintro x9 W5 ⟨rfl, y, hy, D5, B5⟩
            have HY := hide1 hy
            have HD5 := hide1 D5
            have HB5 := hide1 (HB.out.trans B5)
            clear kD hy D5 B5 c0 c1 c2 c3 c4 c5 c6 c7
            go_wp2
            go_roundw
            case rel => exact ⟨j + 1, by omega, by go_num, y, HY.out.mono (by omega), HD5.out, HB5.out⟩
            case measure => simp [intOf]; omega
          · have hfi : (1000 : Int) < (fb.size : Int) := by omega
            clear hbd hfb
            go_wp2
            go_roundw
            case rel => exact ⟨j + 1, by omega, by go_num, x, HOK.out.mono (by omega), HD.out.mono (Nat.le_succ j) (Nat.le_succ j), HB.out⟩
            case measure => simp [intOf]; omega
        · have hbi : (1000 : Int) < (body.size : Int) := by omega
          clear hbd
          go_wp2
          go_roundw
          case rel => exact ⟨j + 1, by omega, by go_num, x, HOK.out.mono (by omega), HD.out.mono (Nat.le_succ j) (Nat.le_succ j), HB.out⟩
          case measure => simp [intOf]; omega
      · have gin2 : ¬ (j : Int) < 60 := by omega
        go_wp2_with (go_at_call 7; refine (kA _).out.mono ?_; rintro x9 W9 ⟨rfl, hb9⟩)
        go_ret
        exact ⟨rfl, HS.out ▸ HB.out.trans (hb9.mono HD.out.size)⟩
    · have gin : ¬ (j : Int) < (len : Int) := by omega
      go_wp2_with (go_at_call 7; refine (kA _).out.mono ?_; rintro x9 W9 ⟨rfl, hb9⟩)
      go_ret
      exact ⟨rfl, HS.out ▸ HB.out.trans (hb9.mono HD.out.size)⟩

theorem plays_all (w : World) (own : Nat) (ho : own < 4294967296) (a : Option Addr) (len cap : Nat) (h : Acs w len a) (he : F.Et w) :
    Calls Tryz.prog 3 #[.int .u32 (own : Int), .slice a len cap] w fun e w' => e = .returned (.bool true) ∧ Below w.heap.size w w' := by
  by_cases h0 : own = 0
  · subst h0
    exact plays_zero w _ he
  · exact plays_pos own (by omega) ho w a len cap h he
end Go.Proofs.YtcadlcpccemkbaaGreatDoor

namespace Go.Proofs.YtcadlcpccemkbaaGreatDoor
open Go.ChangeShapes Go.WideShapes Go.RowKit Go.Deep
set_option maxRecDepth 100000

theorem nat_u32 {n : Int} (h : (Lit.int .u32 n).wf = true) : ∃ a : Nat, n = (a : Int) ∧ a < 4294967296 := by
  obtain ⟨h1, h2⟩ := bounds_u32 h
  exact ⟨n.toNat, by omega, by omega⟩
theorem three_list {α : Type} (l : List α) (h : l.length = 3) : ∃ a b c, l = [a, b, c] := by
  match l, h with
  | [a, b, c], _ => exact ⟨a, b, c, rfl⟩
theorem six_list {α : Type} (l : List α) (h : l.length = 6) : ∃ a b c d e f, l = [a, b, c, d, e, f] := by
  match l, h with
  | [a, b, c, d, e, f], _ => exact ⟨a, b, c, d, e, f, rfl⟩
theorem eight_list {α : Type} (l : List α) (h : l.length = 8) : ∃ a b c d e f g i, l = [a, b, c, d, e, f, g, i] := by
  match l, h with
  | [a, b, c, d, e, f, g, i], _ => exact ⟨a, b, c, d, e, f, g, i, rfl⟩
theorem cellsA : Tryz.prog.cellsOf 44 = 8 := by kernel_rfl
theorem cellsF : Tryz.prog.cellsOf 42 = 6 := by kernel_rfl
theorem cellsU : Tryz.prog.cellsOf 22 = 1 := by kernel_rfl
theorem cells3 : Tryz.prog.cellsOf 3 = 1 := by kernel_rfl
theorem cells9 : Tryz.prog.cellsOf 9 = 1 := by kernel_rfl
theorem add_plain (g o j : Nat) : (⟨g, o, none⟩ : Addr).add j = ⟨g, o + j, none⟩ := by unfold Addr.add; split <;> simp_all

theorem open_acts {H : Type} {enc : TypeId × Value → H} {W : World} {held : Bool} {fuel : Nat} {a : Option Addr} {len cap : Nat} {x : DataW H × List MemPlace} (h : DataW.trod enc Tryz.prog W 0 (fun _ => true) held fuel 23 [.slice a len cap] = some x) : Acs W len a := by
  rcases open_slice Tryz.underlying23 h with ⟨h0, _⟩ | ⟨ad, len', cap', m, n, D, Pl, hcs, _, hl, _, hmm, hx0, hx⟩
  · cases h0
    intro j hj
    omega
  cases hcs
  have hlm : len ≤ m := by rw [hmm]; split <;> omega
  intro j hj
  obtain ⟨cs', h1, h2⟩ := hx j (by omega)
  rw [cellsA] at h1
  obtain ⟨_, hlen, hcell⟩ := World.cells?_some h1
  obtain ⟨xs, k, hk, hxy, _, hxl, hf⟩ := DataW.trod_struct Tryz.underlying44 h2
  have hxl' : xs.length = 3 := hxl
  clear hxl
  obtain ⟨y0, y1, y2, rfl⟩ := three_list xs hxl'
  obtain ⟨v0, v1, v2, v3, v4, v5, v6, v7, rfl⟩ := eight_list cs' hlen
  have g0 := hf 0 _ rfl
  have g1 := hf 1 _ rfl
  have g2 := hf 2 _ rfl
  simp [cells3, cellsF, cells9] at g0 g1 g2
  obtain ⟨xs2, k2, hk2, hxy2, _, hxl2, hf2⟩ := DataW.trod_struct Tryz.underlying42 g2
  have hxl2' : xs2.length = 6 := hxl2
  clear hxl2
  obtain ⟨z0, z1, z2, z3, z4, z5, rfl⟩ := six_list xs2 hxl2'
  have f0 := hf2 0 _ rfl
  have f1 := hf2 1 _ rfl
  have f2 := hf2 2 _ rfl
  have f3 := hf2 3 _ rfl
  have f4 := hf2 4 _ rfl
  have f5 := hf2 5 _ rfl
  simp [cells3, cellsU, cells9] at f0 f1 f2 f3 f4 f5
  obtain ⟨q0, e0, _, _⟩ := DataW.trod_int Tryz.underlying3 g0
  obtain ⟨q1, e1, _, _⟩ := DataW.trod_string Tryz.underlying9 g1
  obtain ⟨q2, e2, _, _⟩ := DataW.trod_int Tryz.underlying3 f0
  obtain ⟨q3, e3, _, w3⟩ := DataW.trod_int Tryz.underlying22 f1
  obtain ⟨q4, e4, _, w4⟩ := DataW.trod_int Tryz.underlying22 f2
  obtain ⟨q5, e5, _, w5⟩ := DataW.trod_int Tryz.underlying22 f3
  obtain ⟨q6, e6, _, w6⟩ := DataW.trod_int Tryz.underlying22 f4
  obtain ⟨q7, e7, _, _⟩ := DataW.trod_string Tryz.underlying9 f5
  simp only [List.cons.injEq, and_true] at e0 e1 e2 e3 e4 e5 e6 e7
  subst e0; subst e1; subst e2; subst e3; subst e4; subst e5; subst e6; subst e7
  obtain ⟨a3, rfl, b3⟩ := nat_u32 w3
  obtain ⟨a4, rfl, b4⟩ := nat_u32 w4
  obtain ⟨a5, rfl, b5⟩ := nat_u32 w5
  obtain ⟨a6, rfl, b6⟩ := nat_u32 w6
  have c0 := hcell 0 (by simp)
  have c1 := hcell 1 (by simp)
  have c2 := hcell 2 (by simp)
  have c3 := hcell 3 (by simp)
  have c4 := hcell 4 (by simp)
  have c5 := hcell 5 (by simp)
  have c6 := hcell 6 (by simp)
  have c7 := hcell 7 (by simp)
  rw [add_add] at c0 c1 c2 c3 c4 c5 c6 c7
  have hsp : ad.spot = none := by
    obtain ⟨cs0, k1, _⟩ := hx 0 (by omega)
    rw [cellsA] at k1
    obtain ⟨_, klen, kcell⟩ := World.cells?_some k1
    obtain ⟨y0, y1, y2, y3, y4, y5, y6, y7, rfl⟩ := eight_list cs0 klen
    have k0 := kcell 0 (by simp)
    rw [add_add] at k0
    have := World.cell?_spot k0
    simpa [Addr.add] using this
  obtain ⟨g, o, sp0⟩ := ad
  simp only at hsp
  subst hsp
  rw [add_plain] at c0 c1 c2 c3 c4 c5 c6 c7
  exact ⟨g, o, q0, q1, q2, a3, a4, a5, a6, q7, rfl, b3, b4, b5, b6, ⟨by simpa using c0, by simpa [Nat.add_assoc] using c1, by simpa [Nat.add_assoc] using c2, by simpa [Nat.add_assoc] using c3⟩, by simpa [Nat.add_assoc] using c4, by simpa [Nat.add_assoc] using c5, by simpa [Nat.add_assoc] using c6, by simpa [Nat.add_assoc] using c7⟩

end Go.Proofs.YtcadlcpccemkbaaGreatDoor
