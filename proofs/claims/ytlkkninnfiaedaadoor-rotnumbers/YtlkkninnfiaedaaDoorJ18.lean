/- The document's cube. -/
import Derived.Test.YtlkkninnfiaedaaDoorJ17
namespace Go.Proofs.YtlkkninnfiaedaaDoor.Sh
open Go.RowKit
set_option maxRecDepth 100000
attribute [local go_sem] not_any

def u64s (l : List Nat) : List Value := l.map (fun n : Nat => Value.int .u64 (n : Int))
def row64 (t : TypeId) (l : List Nat) : Obj := .cells (u64s l).toArray t (0, 0)
theorem cell64 {w : World} {g j : Nat} {t : TypeId} {l : List Nat} (h : w.heap[g]? = some (row64 t l)) (hj : j < l.length) : w.cell? ⟨g, j, none⟩ = some (.int .u64 (at0 l j : Nat)) := by
  rw [cell_of_row w g j _ t (0, 0) h]
  simp [u64s, get_at0 hj]
theorem set64 {w : World} {g j x : Nat} {t : TypeId} {l : List Nat} (h : w.heap[g]? = some (row64 t l)) : (w.setCell ⟨g, j, none⟩ (.int .u64 (x : Int))).heap[g]? = some (row64 t (l.set j x)) := by
  rw [heap_setCell_same w g j _ t _ h]
  unfold row64 u64s
  congr 2
  simp

theorem and18 {x : Nat} (h : x < 18446744073709551616) : bits .and .u64 (x : Int) 262143 = ((x % 262144 : Nat) : Int) := by
  have := u64_and_nat x 262143 h (by omega)
  rw [show (262143 : Nat) = 2 ^ 18 - 1 from rfl, Nat.and_two_pow_sub_one_eq_mod] at this
  exact this
theorem wrap64N (x : Nat) : IntKind.u64.wrap (x : Int) = ((x % 18446744073709551616 : Nat) : Int) := by
  rw [IntKind.wrap_u64]
  omega
theorem wmul (x y : Nat) : IntKind.u64.wrap ((x : Int) * (y : Int)) = ((x * y % 18446744073709551616 : Nat) : Int) := by rw [← Int.natCast_mul, wrap64N]
theorem wadd (x y : Nat) : IntKind.u64.wrap ((x : Int) + (y : Int)) = (((x + y) % 18446744073709551616 : Nat) : Int) := by rw [← Int.natCast_add, wrap64N]
theorem div18 (x : Nat) : (x : Int) / 262144 = ((x / 262144 : Nat) : Int) := by omega

/- a fact that no step looks into -/
structure Shy (p : Prop) : Prop where
  out : p

theorem mulE_length (d : List Nat) (h l : Nat) : ∀ i, (mulE d h l i).length = 8
  | 0 => rfl
  | i + 1 => by simp [mulE, mulE_length d h l i]
theorem carE_length (e : List Nat) : ∀ i, (carE e i).length = e.length
  | 0 => rfl
  | i + 1 => by simp [carE, carE_length e i]
theorem mulE_lt (d : List Nat) (h l : Nat) : ∀ i, Lt 18446744073709551616 (mulE d h l i)
  | 0 => lt_replicate (by omega) 8
  | i + 1 => ((mulE_lt d h l i).set (Nat.mod_lt _ (by omega)) _).set (Nat.mod_lt _ (by omega)) _
theorem carE_lt {e : List Nat} (he : Lt 18446744073709551616 e) : ∀ i, Lt 18446744073709551616 (carE e i)
  | 0 => he
  | i + 1 => by
    have h1 := (carE_lt he i).set (Nat.mod_lt (at0 (carE e i) (i + 1) + at0 (carE e i) i / 262144) (show 0 < 18446744073709551616 by omega)) (i + 1)
    exact h1.set (Nat.lt_of_le_of_lt (Nat.mod_le _ _) (h1.at (by omega) i)) i

set_option maxHeartbeats 2000000 in
theorem cube_any (x n : Nat) (w : World) (hx : x < 18446744073709551616) (_hn : n < 18446744073709551616) :
    Calls Tryd.prog 98 #[.int .u64 (x : Int), .int .u64 (n : Int)] w fun e w' => e = .returned (.bool (cubeP x n)) ∧ Below w.heap.size w w' := by
  have el := and18 hx
  have eh := div18 x
  obtain ⟨h, hh⟩ : ∃ h, h = x / 262144 := ⟨_, rfl⟩
  obtain ⟨l, hl⟩ : ∃ l, l = x % 262144 := ⟨_, rfl⟩
  rw [← hh] at eh
  rw [← hl] at el
  have hhb : h < 70368744177664 := by omega
  have hlb : l < 262144 := by omega
  obtain ⟨c, hc⟩ : ∃ c, c = l * l % 18446744073709551616 := ⟨_, rfl⟩
  obtain ⟨c1, hc1⟩ : ∃ c1, c1 = c / 262144 := ⟨_, rfl⟩
  obtain ⟨b0, hb0⟩ : ∃ b0, b0 = 2 * h % 18446744073709551616 * l % 18446744073709551616 := ⟨_, rfl⟩
  obtain ⟨b, hb⟩ : ∃ b, b = (b0 + c1) % 18446744073709551616 := ⟨_, rfl⟩
  obtain ⟨b1, hb1⟩ : ∃ b1, b1 = b / 262144 := ⟨_, rfl⟩
  obtain ⟨a0, ha0⟩ : ∃ a0, a0 = h * h % 18446744073709551616 := ⟨_, rfl⟩
  obtain ⟨a, ha⟩ : ∃ a, a = (a0 + b1) % 18446744073709551616 := ⟨_, rfl⟩
  obtain ⟨d0, hd0⟩ : ∃ d0, d0 = c % 262144 := ⟨_, rfl⟩
  obtain ⟨d1, hd1⟩ : ∃ d1, d1 = b % 262144 := ⟨_, rfl⟩
  obtain ⟨d2, hd2⟩ : ∃ d2, d2 = a % 262144 := ⟨_, rfl⟩
  obtain ⟨d3, hd3⟩ : ∃ d3, d3 = a / 262144 := ⟨_, rfl⟩
  have HD : Hid (sqD x = [d0, d1, d2, d3, 0, 0, 0, 0]) := by
    show _ = _
    rw [hd0, hd1, hd2, hd3, ha, ha0, hb1, hb, hb0, hc1, hc, hh, hl]
    rfl
  have m4 : IntKind.u64.wrap ((l : Int) * (l : Int)) = (c : Int) := by rw [wmul, hc]
  have m3 : IntKind.u64.wrap (2 * (h : Int) * (l : Int)) = (b0 : Int) := by
    rw [show 2 * (h : Int) = ((2 * h : Nat) : Int) by omega, wmul, hb0, Nat.mod_eq_of_lt (show 2 * h < 18446744073709551616 by omega)]
  have m1 : IntKind.u64.wrap ((h : Int) * (h : Int)) = (a0 : Int) := by rw [wmul, ha0]
  have s1 : (c : Int) / 262144 = (c1 : Int) := by omega
  have p1 : IntKind.u64.wrap ((b0 : Int) + (c1 : Int)) = (b : Int) := by rw [wadd, hb]
  have s2 : (b : Int) / 262144 = (b1 : Int) := by omega
  have p2 : IntKind.u64.wrap ((a0 : Int) + (b1 : Int)) = (a : Int) := by rw [wadd, ha]
  have s3 : (a : Int) / 262144 = (d3 : Int) := by omega
  have k0 : bits .and .u64 (c : Int) 262143 = (d0 : Int) := by rw [and18 (by rw [hc]; exact Nat.mod_lt _ (by omega)), hd0]
  have k1 : bits .and .u64 (b : Int) 262143 = (d1 : Int) := by rw [and18 (by rw [hb]; exact Nat.mod_lt _ (by omega)), hd1]
  have k2 : bits .and .u64 (a : Int) 262143 = (d2 : Int) := by rw [and18 (by rw [ha]; exact Nat.mod_lt _ (by omega)), hd2]
  have Hh := hide1 hh
  have Hll := hide1 hl
  clear hh hl hc hc1 hb0 hb hb1 ha0 ha hd0 hd1 hd2 hd3
  go_enter Tryd.func98, Tryd.ntmps98
  go_upto_block 0 with (fail)
  generalize hW : World.alloc (World.alloc w _) _ = W
  have h1 : W.heap[w.heap.size]? = some (row64 178 [d0, d1, d2, d3, 0, 0, 0, 0]) := by rw [← hW]; exact heap_alloc2_old _ _ _
  have h2 : W.heap[w.heap.size + 1]? = some (row64 178 (zeros 8)) := by rw [← hW]; exact heap_alloc2_new _ _ _
  have h3 : Below w.heap.size w W := by rw [← hW]; exact ((Below.refl _ _).alloc (Nat.le_refl _) _).alloc (by simp) _
  rw [← HD.out] at h1
  have hdl : (sqD x).length = 8 := by rw [HD.out]; rfl
  have Hdl := hide1 hdl
  have H1 := hide1 h1
  have H2 := hide1 h2
  have H3 := hide1 h3
  clear hW h1 h2 h3 hdl m1 m3 m4 s1 s2 s3 p1 p2 k0 k1 k2 el eh
  go_wp2
  go_loopw [12] (fun v wr => ∃ i : Nat, i ≤ 4 ∧ v = .int .i64 i ∧ wr.heap[w.heap.size]? = some (row64 178 (sqD x)) ∧ wr.heap[w.heap.size + 1]? = some (row64 178 (mulE (sqD x) h l i)) ∧ Below w.heap.size w wr) (fun v _ => 4 - (intOf v).toNat)
  case atStart => exact ⟨0, Nat.zero_le _, rfl, H1.out, H2.out, H3.out⟩
  case round =>
    obtain ⟨i, hi, rfl, r1, r2, r3⟩ := hrel
    clear H1 H2 H3
    by_cases hlt : i < 4
    · have R1 := hide1 r1
      have R2 := hide1 r2
      have R3 := hide1 r3
      have cd := cell64 r1 (j := i) (by rw [Hdl.out]; omega)
      have ce := cell64 r2 (j := i) (by rw [mulE_length]; omega)
      have fe := frozen_of_row wr (w.heap.size + 1) i _ _ r2
      obtain ⟨E, hE⟩ : ∃ E, E = mulE (sqD x) h l i := ⟨_, rfl⟩
      rw [← hE] at ce R2
      have hEl : E.length = 8 := by rw [hE]; exact mulE_length _ _ _ _
      obtain ⟨y, hy⟩ : ∃ y, y = at0 (sqD x) i := ⟨_, rfl⟩
      obtain ⟨z, hz⟩ : ∃ z, z = at0 E i := ⟨_, rfl⟩
      rw [← hy] at cd
      rw [← hz] at ce
      obtain ⟨yl, hyl⟩ : ∃ yl, yl = y * l % 18446744073709551616 := ⟨_, rfl⟩
      obtain ⟨z', hz'⟩ : ∃ z', z' = (z + yl) % 18446744073709551616 := ⟨_, rfl⟩
      have q1 : IntKind.u64.wrap ((y : Int) * (l : Int)) = (yl : Int) := by rw [wmul, hyl]
      have q2 : IntKind.u64.wrap ((z : Int) + (yl : Int)) = (z' : Int) := by rw [wadd, hz']
      obtain ⟨j, hj⟩ : ∃ j, j = i + 1 := ⟨_, rfl⟩
      obtain ⟨E1, hE1⟩ : ∃ E1, E1 = E.set i z' := ⟨_, rfl⟩
      obtain ⟨v, hv⟩ : ∃ v, v = at0 E1 j := ⟨_, rfl⟩
      obtain ⟨yh, hyh⟩ : ∃ yh, yh = y * h % 18446744073709551616 := ⟨_, rfl⟩
      obtain ⟨v', hv'⟩ : ∃ v', v' = (v + yh) % 18446744073709551616 := ⟨_, rfl⟩
      have q3 : IntKind.u64.wrap ((y : Int) * (h : Int)) = (yh : Int) := by rw [wmul, hyh]
      have q4 : IntKind.u64.wrap ((v : Int) + (yh : Int)) = (v' : Int) := by rw [wadd, hv']
      have ej : (i : Int) + 1 = (j : Int) := by omega
      have wj : IntKind.i64.wrap (j : Int) = (j : Int) := by rw [IntKind.wrap_i64]; omega
      have j8 : (j : Int) < 8 := by omega
      have HN : Hid (mulE (sqD x) h l (i + 1) = E1.set j v') := by
        show _ = _
        rw [hv', hv, hyh, hE1, hz', hyl, hz, hy, hE, hj]
        rfl
      have Hv := hide1 hv
      have HE1 := hide1 hE1
      have HEl := hide1 hEl
      have Hj := hide1 hj
      have Hy := hide1 hy
      clear r1 r2 r3 hE hy hz hyl hz' hE1 hv hyh hv' hEl hj
      go_wp2
      go_region
      generalize hX : World.drew _ = X
      have x1 : X.heap[w.heap.size]? = some (row64 178 (sqD x)) := by
        rw [← hX]
        exact (Below.heap_setCell _ _ _ _ (by show w.heap.size ≠ w.heap.size + 1; omega)).trans R1.out
      have x2 : X.heap[w.heap.size + 1]? = some (row64 178 E1) := by rw [← hX, HE1.out]; exact set64 R2.out
      have x3 : Below w.heap.size w X := by rw [← hX]; exact (R3.out.setCell (p := ⟨w.heap.size + 1, _, none⟩) (by simp) _).drew
      have cd' := cell64 x1 (j := i) (by rw [Hdl.out]; omega)
      have cv := cell64 x2 (j := j) (by rw [HE1.out]; simp [HEl.out]; omega)
      have fv := frozen_of_row X (w.heap.size + 1) j _ _ x2
      rw [← Hy.out] at cd'
      rw [← Hv.out] at cv
      have X1 := hide1 x1
      have X2 := hide1 x2
      have X3 := hide1 x3
      clear hX x1 x2 x3 cd ce fe q1 q2
      go_wp2
      go_region
      go_wp2
      go_roundw
      case rel =>
        refine ⟨i + 1, by omega, by rw [← Hj.out], ?_, ?_, ?_⟩
        · exact (Below.heap_setCell _ _ _ _ (by show w.heap.size ≠ w.heap.size + 1; omega)).trans X1.out
        · rw [HN.out]
          exact set64 X2.out
        · exact (X3.out.setCell (p := ⟨w.heap.size + 1, _, none⟩) (by simp) _).drew
      case measure => simp [intOf]; omega
    · have : i = 4 := by omega
      subst this
      obtain ⟨E, hE⟩ : ∃ E, E = mulE (sqD x) h l 4 := ⟨_, rfl⟩
      rw [← hE] at r2
      have HEl : Hid (E.length = 8) := by rw [hE]; exact mulE_length _ _ _ _
      have HEt : Hid (Lt 18446744073709551616 E) := by rw [hE]; exact mulE_lt _ _ _ _
      have HC : Shy (cubeP x n = cmpE (carE E 7) (bound n) 8) := ⟨by
        rw [cubeP, hE, Hh.out, Hll.out]⟩
      have R2 := hide1 r2
      have R3 := hide1 r3
      clear r1 r2 r3 hE
      go_wp2
      go_loopw [13] (fun v wx => ∃ i : Nat, i ≤ 7 ∧ v = .int .i64 i ∧ wx.heap[w.heap.size + 1]? = some (row64 178 (carE E i)) ∧ Below w.heap.size w wx) (fun v _ => 7 - (intOf v).toNat)
      case atStart => exact ⟨0, Nat.zero_le _, rfl, R2.out, R3.out⟩
      case round =>
        obtain ⟨i, hi, rfl, r2, r3⟩ := hrel
        clear R2 R3
        by_cases hlt : i < 7
        · have R2 := hide1 r2
          have R3 := hide1 r3
          obtain ⟨C, hC⟩ : ∃ C, C = carE E i := ⟨_, rfl⟩
          rw [← hC] at r2 R2
          have hCl : C.length = 8 := by rw [hC, carE_length]; exact HEl.out
          have hCt : Lt 18446744073709551616 C := by rw [hC]; exact carE_lt HEt.out i
          obtain ⟨j, hj⟩ : ∃ j, j = i + 1 := ⟨_, rfl⟩
          have ci := cell64 r2 (j := i) (by omega)
          have cj := cell64 r2 (j := j) (by omega)
          have fj := frozen_of_row wr (w.heap.size + 1) j _ _ r2
          have bi := hCt.at (by omega) i
          obtain ⟨y, hy⟩ : ∃ y, y = at0 C i := ⟨_, rfl⟩
          obtain ⟨z, hz⟩ : ∃ z, z = at0 C j := ⟨_, rfl⟩
          rw [← hy] at ci bi
          rw [← hz] at cj
          obtain ⟨y1, hy1⟩ : ∃ y1, y1 = y / 262144 := ⟨_, rfl⟩
          obtain ⟨z', hz'⟩ : ∃ z', z' = (z + y1) % 18446744073709551616 := ⟨_, rfl⟩
          obtain ⟨y2, hy2⟩ : ∃ y2, y2 = y % 262144 := ⟨_, rfl⟩
          have q1 : (y : Int) / 262144 = (y1 : Int) := by omega
          have q2 : IntKind.u64.wrap ((z : Int) + (y1 : Int)) = (z' : Int) := by rw [wadd, hz']
          have q3 : bits .and .u64 (y : Int) 262143 = (y2 : Int) := by rw [and18 bi, hy2]
          have ej : (i : Int) + 1 = (j : Int) := by omega
          have wj : IntKind.i64.wrap (j : Int) = (j : Int) := by rw [IntKind.wrap_i64]; omega
          have j8 : (j : Int) < 8 := by omega
          have HN : Hid (carE E (i + 1) = (C.set j z').set i y2) := by
            have e : at0 (C.set (i + 1) ((at0 C (i + 1) + at0 C i / 262144) % 18446744073709551616)) i = at0 C i := by
              rw [at0_set (by omega), if_neg (by omega)]
            show _ = _
            rw [hy2, hz', hy1, hz, hy, hj, ← e, carE, ← hC]
            simp only [e]
          have Hj := hide1 hj
          have Hy := hide1 hy
          have HCl := hide1 hCl
          clear r2 r3 hC hCl hCt hy hz hy1 hz' hy2 hj
          go_wp2
          go_region
          generalize hX : World.drew _ = X
          have x2 : X.heap[w.heap.size + 1]? = some (row64 178 (C.set j z')) := by rw [← hX]; exact set64 R2.out
          have x3 : Below w.heap.size w X := by rw [← hX]; exact (R3.out.setCell (p := ⟨w.heap.size + 1, _, none⟩) (by simp) _).drew
          have ci' := cell64 x2 (j := i) (by simp [HCl.out]; omega)
          rw [at0_set (by rw [HCl.out]; have := Hj.out; omega), if_neg (by have := Hj.out; omega), ← Hy.out] at ci'
          have fi' := frozen_of_row X (w.heap.size + 1) i _ _ x2
          have X2 := hide1 x2
          have X3 := hide1 x3
          clear hX x2 x3 ci cj fj q1 q2
          go_wp2
          go_roundw
          case rel =>
            refine ⟨i + 1, by omega, by rw [← Hj.out], ?_, ?_⟩
            · rw [HN.out]
              exact set64 X2.out
            · exact X3.out.setCell (p := ⟨w.heap.size + 1, _, none⟩) (by simp) _
          case measure => simp [intOf]; omega
        · have : i = 7 := by omega
          subst this
          obtain ⟨C, hC⟩ : ∃ C, C = carE E 7 := ⟨_, rfl⟩
          rw [← hC] at r2
          have HC' : Shy (cubeP x n = cmpE C (bound n) 8) := ⟨by rw [hC]; exact HC.out⟩
          have HCl : Hid (C.length = 8) := by rw [hC, carE_length]; exact HEl.out
          have R2 := hide1 r2
          have R3 := hide1 r3
          obtain ⟨n6, hn6⟩ : ∃ n6, n6 = n * 64 % 18446744073709551616 := ⟨_, rfl⟩
          have mn : IntKind.u64.wrap ((n : Int) * 64) = (n6 : Int) := by
            have := wmul n 64
            rw [hn6]
            exact this
          have k5 : bits .and .u64 (n6 : Int) 262143 = ((n6 % 262144 : Nat) : Int) := and18 (by rw [hn6]; exact Nat.mod_lt _ (by omega))
          obtain ⟨f5, hf5⟩ : ∃ f5, f5 = n6 % 262144 := ⟨_, rfl⟩
          obtain ⟨f6, hf6⟩ : ∃ f6, f6 = n6 / 262144 := ⟨_, rfl⟩
          rw [← hf5] at k5
          have s6 : (n6 : Int) / 262144 = (f6 : Int) := by omega
          have HF : Hid (bound n = [0, 0, 0, 0, 0, f5, f6, 0]) := by
            show _ = _
            rw [hf5, hf6, hn6]
            rfl
          clear r2 r3 hC hn6 hf5 hf6
          have s5 := lt_heap R2.out
          go_upto_block 6 with (fail)
          generalize hY : World.alloc wr _ = Y
          have y1 : Y.heap[w.heap.size + 1]? = some (row64 178 C) := by rw [← hY]; exact (heap_alloc_old _ _ s5).trans R2.out
          have y2 : Y.heap[wr.heap.size]? = some (row64 178 (bound n)) := by rw [← hY, HF.out]; exact heap_alloc_new _ _
          have y3 : Below w.heap.size w Y := by rw [← hY]; exact R3.out.alloc R3.out.size _
          have Y1 := hide1 y1
          have Y2 := hide1 y2
          have Y3 := hide1 y3
          have HFl : Hid ((bound n).length = 8) := rfl
          clear hY y1 y2 y3 s5 mn k5 s6
          go_loopw [15] (fun v wx => ∃ k q : Nat, k ≤ 8 ∧ v = .int .i64 ((k : Int) - 1) ∧ wx = Y.drewN q ∧ Shy (cmpE C (bound n) 8 = cmpE C (bound n) k)) (fun v _ => (intOf v + 1).toNat)
          case atStart => exact ⟨8, 0, Nat.le_refl _, rfl, rfl, ⟨rfl⟩⟩
          case round =>
            obtain ⟨k, q, hk, rfl, rfl, hcmp⟩ := hrel
            cases k with
            | zero =>
              have e0 : ((0 : Nat) : Int) - 1 = -1 := rfl
              rw [e0]
              go_wp2
              go_ret
              exact ⟨by rw [HC'.out, hcmp.out]; rfl, below_drewN' Y3.out q⟩
            | succ m =>
              have em : ((m + 1 : Nat) : Int) - 1 = (m : Int) := by omega
              rw [em]
              obtain ⟨X, hX⟩ : ∃ X, Y.drewN q = X := ⟨_, rfl⟩
              have c1 : X.cell? ⟨w.heap.size + 1, m, none⟩ = some (.int .u64 (at0 C m : Nat)) := by rw [← hX]; exact cell64 Y1.out (by rw [HCl.out]; omega)
              have c2 : X.cell? ⟨wr.heap.size, m, none⟩ = some (.int .u64 (at0 (bound n) m : Nat)) := by rw [← hX]; exact cell64 Y2.out (by rw [HFl.out]; omega)
              have HN : Shy (cmpE C (bound n) (m + 1) = if at0 C m ≠ at0 (bound n) m then decide (at0 C m < at0 (bound n) m) else cmpE C (bound n) m) := ⟨rfl⟩
              have HX := hide1 hX
              rw [hX]
              generalize at0 C m = y at c1 HN
              generalize at0 (bound n) m = z at c2 HN
              have hm8 : (m : Int) < 8 := by omega
              have Hem := hide1 em
              clear hX em
              by_cases hne : y = z
              · have hb : ((y : Int) != (z : Int)) = false := by rw [hne]; simp
                have HN' : Shy (cmpE C (bound n) (m + 1) = cmpE C (bound n) m) := ⟨by rw [HN.out, if_neg (by simp [hne])]⟩
                clear HN hne
                go_wp2
                go_quiet (fail)
                go_wp2
                go_roundw
                case rel => exact ⟨m, q + nq, by omega, rfl, by rw [← HX.out]; exact World.drewN_drewN _ _ _, ⟨by rw [hcmp.out, HN'.out]⟩⟩
                case measure => simp [intOf]
              · have hb : ((y : Int) != (z : Int)) = true := by rw [bne_iff_ne]; omega
                have HN' : Shy (cmpE C (bound n) (m + 1) = decide (y < z)) := ⟨by rw [HN.out, if_pos hne]⟩
                have ed : decide ((y : Int) < (z : Int)) = decide (y < z) := by
                  by_cases h : y < z
                  · rw [decide_eq_true h, decide_eq_true (by omega)]
                  · rw [decide_eq_false h, decide_eq_false (by omega)]
                have Ed := hide1 ed
                have xb : Below w.heap.size w X := by rw [← HX.out]; exact below_drewN' Y3.out q
                have XB := hide1 xb
                clear HN hne ed xb
                go_wp2
                go_quiet (fail)
                go_wp2
                obtain ⟨X2, hX2⟩ : ∃ X2, X.drewN nq = X2 := ⟨_, rfl⟩
                have c1' : X2.cell? ⟨w.heap.size + 1, m, none⟩ = some (.int .u64 (y : Int)) := by rw [← hX2]; exact c1
                have c2' : X2.cell? ⟨wr.heap.size, m, none⟩ = some (.int .u64 (z : Int)) := by rw [← hX2]; exact c2
                have HX2 := hide1 hX2
                rw [hX2]
                clear hX2 c1 c2
                go_quiet (fail)
                go_wp2
                go_ret
                refine ⟨by rw [HC'.out, hcmp.out, HN'.out, ← Ed.out]; rfl, ?_⟩
                rw [← HX2.out]
                exact below_drewN' (below_drewN' XB.out _) _
end Go.Proofs.YtlkkninnfiaedaaDoor.Sh
