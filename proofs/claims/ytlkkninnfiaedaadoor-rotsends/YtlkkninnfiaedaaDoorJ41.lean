/- Bits of words: Words, and the document's own answer. A square in memory: cross, turn. Blocks of rows, squares of rows; lists of words that are 0. Lists of words in memory: blank, toColumns. -/
import Derived.Test.YtlkkninnfiaedaaDoorJ40
import Derived.Test.YtlkkninnfiaedaaDoorJ38
import Derived.Test.YtlkkninnfiaedaaDoorJ35
import Derived.BigRegion
import Derived.Deep.MidRow
import Derived.Deep.Cut
import Derived.Deep.CutBlock
import Derived.Deep.DeepCutAuto
namespace Go.Proofs.YtlkkninnfiaedaaDoor.T
open Go.RowKit
set_option maxRecDepth 100000
attribute [local go_sem] not_any mf_any field_words

/- the first n bits of words -/
def bitsOf (n : Nat) (ws : List Nat) : List Bool := (List.range n).map (fun i => (ws.getD (i / 64) 0).testBit (i % 64))
theorem bitsOf_length (n : Nat) (ws : List Nat) : (bitsOf n ws).length = n := by simp [bitsOf]
theorem bitsOf_get {n : Nat} {ws : List Nat} {i : Nat} (h : i < n) : (bitsOf n ws)[i]? = some ((ws.getD (i / 64) 0).testBit (i % 64)) := by
  simp [bitsOf, h]

theorem copy_nl {b' : Nat} {W : World} {n c : Nat} {a av : Option Addr} {l0 : List Bool} {ws : List Nat} (hs : Nl W (need n 64) a ws) (hlt : ∀ (k x : Nat), ws[k]? = some x → x < 18446744073709551616) (hd : Vc b' W n av l0) :
    ∃ W', (Builtin.copy_ #[39, 39] 3 #[.slice av (need n 64) (need n 64), .slice a (need n 64) c]).run Tryd.prog W = .ok (goInt (need n 64)) W' ∧ Wr b' W' n av ws ∧ W.grownBy W' (blk av) := by
  by_cases h0 : n = 0
  · subst h0
    have hl : ws = [] := List.eq_nil_of_length_eq_zero hs.len
    have hl0 : l0 = [] := List.eq_nil_of_length_eq_zero hd.len
    subst hl hl0
    exact ⟨W, run_copy_none (P := Tryd.prog) W 39 39 3 22 av a _ _ _ c Tryd.underlying39 size55 (by decide), hd.wr, ⟨rfl, rfl, rfl, Nat.le_refl _, fun _ _ _ => rfl⟩⟩
  · have hp : 0 < need n 64 := by rw [need64]; omega
    obtain ⟨g, rfl, hb, hg, _⟩ := hd.cell hp
    obtain ⟨x, hx⟩ : ∃ x, ws[0]? = some x := ⟨_, List.getElem?_eq_getElem (by rw [hs.len]; exact hp)⟩
    obtain ⟨gs, o, rfl, _⟩ := hs.at' 0 x hx
    have e1 : (u64s ws).length = need n 64 := by simp [u64s, hs.len]
    have e2 : (u64s (chunks 64 l0)).toArray.size = need n 64 := by simp [u64s, chunks_length, hd.len]
    have h := run_copy_row (P := Tryd.prog) W 39 39 3 22 g 0 (need n 64) (need n 64) ⟨gs, o, none⟩ (need n 64) c (u64s (chunks 64 l0)).toArray 22 (u64s ws) Tryd.underlying39 size55 hg (by rw [e1]; simp) (by
      intro j v hv
      simp only [u64s, List.getElem?_map, Option.map_eq_some_iff] at hv
      obtain ⟨y, hy, rfl⟩ := hv
      obtain ⟨g', o', e, hc⟩ := hs.at' j y hy
      cases e
      rw [addr_add]
      exact hc) (by rw [e1, e2]; omega) (u64s_one ws)
    rw [e1] at h
    have e3 : (List.take 0 (u64s (chunks 64 l0)).toArray.toList ++ u64s ws ++ List.drop (0 + need n 64) (u64s (chunks 64 l0)).toArray.toList).toArray = (u64s ws).toArray := by
      rw [List.drop_eq_nil_of_le (by simpa using Nat.le_of_eq e2)]
      simp
    rw [e3] at h
    exact ⟨_, h, ⟨hs.len, hlt, .inr ⟨g, rfl, hb, setRow_heap W g _ _ _ _ hg⟩⟩, ⟨rfl, rfl, rfl, by simp, fun k _ hk => setRow_other W g k _ (fun e => hk (by simp [blk, e]))⟩⟩

end Go.Proofs.YtlkkninnfiaedaaDoor.T

namespace Go.Proofs.YtlkkninnfiaedaaDoor.T
open Go.RowKit
set_option maxRecDepth 100000
attribute [local go_sem] not_any

structure Shy (p : Prop) : Prop where
  out : p

def row64 (t : TypeId) (l : List Nat) : Obj := .cells (u64s l).toArray t (0, 0)
theorem cell64 {w : World} {g j x : Nat} {t : TypeId} {l : List Nat} (h : w.heap[g]? = some (row64 t l)) (hj : l[j]? = some x) : w.cell? ⟨g, j, none⟩ = some (.int .u64 (x : Int)) := by
  rw [cell_of_row w g j _ t (0, 0) h]
  simp [u64s, hj]
theorem set64 {w : World} {g j x : Nat} {t : TypeId} {l : List Nat} (h : w.heap[g]? = some (row64 t l)) : (w.setCell ⟨g, j, none⟩ (.int .u64 (x : Int))).heap[g]? = some (row64 t (l.set j x)) := by
  rw [heap_setCell_same w g j _ t _ h]
  unfold row64 u64s
  congr 2
  simp
theorem div_cast (x h : Nat) : (x : Int) / 2 ^ h = ((x / 2 ^ h : Nat) : Int) := by rw [Int.natCast_ediv, Int.natCast_pow]; rfl
theorem mul_cast (x h : Nat) : (x : Int) * 2 ^ h = ((x * 2 ^ h : Nat) : Int) := by rw [Int.natCast_mul, Int.natCast_pow]; rfl
theorem shl_cast (x h : Nat) : (x : Int) * 2 ^ h % 18446744073709551616 = ((x * 2 ^ h % 18446744073709551616 : Nat) : Int) := by
  rw [mul_cast]
  generalize x * 2 ^ h = z
  omega
theorem shl_wrap (x h : Nat) : IntKind.u64.wrap ((x : Int) * 2 ^ h) = ((x * 2 ^ h % 18446744073709551616 : Nat) : Int) := by
  rw [← shl_cast, IntKind.wrap_u64]

theorem below_dn (B : Nat) (w : World) (n : Nat) : Below B w (w.drewN n) := ⟨rfl, rfl, rfl, Nat.le_refl _, fun _ _ => rfl⟩

set_option maxHeartbeats 1000000 in
theorem cross_any (t : TypeId) (w : World) (g j h low x y : Nat) (l : List Nat) (hg : w.heap[g]? = some (row64 t l)) (hx : l[j]? = some x) (hy : l[j + h]? = some y) (hj : j + h < 64) (hp : 0 < h) (hlow : low < 18446744073709551616) (bx : x < 18446744073709551616) (bu : y < 18446744073709551616) :
    Calls Tryd.prog 92 #[.pointer (some ⟨g, 0, none⟩), .int .i64 j, .int .i64 h, .int .u64 low] w fun e w' => e = .returned (.tuple #[]) ∧ w'.heap[g]? = some (row64 t ((l.set j (x ^^^ (unl h low x y * 2 ^ h % 18446744073709551616))).set (j + h) (y ^^^ unl h low x y))) ∧ Below g w w' := by
  obtain ⟨k, hk⟩ : ∃ k, k = j + h := ⟨_, rfl⟩
  have hjk : j ≠ k := by omega
  rw [← hk] at hy hj ⊢
  have q1 : IntKind.i64.wrap ((j : Int) + (h : Int)) = (k : Int) := by rw [IntKind.wrap_i64]; omega
  have q0 : (j : Int) + (h : Int) = (k : Int) := by omega
  have hq : x / 2 ^ h < 18446744073709551616 := Nat.lt_of_le_of_lt (Nat.div_le_self _ _) bx
  obtain ⟨z, hz⟩ : ∃ z, z = x / 2 ^ h ^^^ y := ⟨_, rfl⟩
  have bz : z < 18446744073709551616 := by rw [hz]; exact (xor_bits _ _ hq bu).1
  have e1 : bits .xor .u64 ((x : Int) / 2 ^ h) (y : Int) = (z : Int) := by rw [div_cast, u64_xor_nat _ _ hq bu, hz]
  obtain ⟨u, hu⟩ : ∃ u, u = unl h low x y := ⟨_, rfl⟩
  have eu : u = z &&& low := by rw [hu, hz]; rfl
  have bu' : u < 18446744073709551616 := by rw [eu]; exact Nat.lt_of_le_of_lt Nat.and_le_right hlow
  have e2 : bits .and .u64 (z : Int) (low : Int) = (u : Int) := by rw [u64_and_nat _ _ bz hlow, eu]
  rw [← hu]
  obtain ⟨v, hv⟩ : ∃ v, v = u * 2 ^ h % 18446744073709551616 := ⟨_, rfl⟩
  have bv : v < 18446744073709551616 := by rw [hv]; exact Nat.mod_lt _ (by omega)
  have e3 : IntKind.u64.wrap ((u : Int) * 2 ^ h) = (v : Int) := by rw [shl_wrap, hv]
  have e3' : (u : Int) * 2 ^ h % 18446744073709551616 = (v : Int) := by rw [shl_cast, hv]
  rw [← hv]
  obtain ⟨a, ha⟩ : ∃ a, a = x ^^^ v := ⟨_, rfl⟩
  have e4 : bits .xor .u64 (x : Int) (v : Int) = (a : Int) := by rw [u64_xor_nat _ _ bx bv, ha]
  obtain ⟨b, hb⟩ : ∃ b, b = y ^^^ u := ⟨_, rfl⟩
  have e5 : bits .xor .u64 (y : Int) (u : Int) = (b : Int) := by rw [u64_xor_nat _ _ bu bu', hb]
  rw [← ha, ← hb]
  have HG := hide1 hg
  have HY := hide1 hy
  have c1 := cell64 hg hx
  have c2 := cell64 hg hy
  have f1 := frozen_of_row w g j _ _ hg
  have h63 : h < 64 := by omega
  clear ha hb hv hu eu hz hg hx hy bz bu' bv hq hk bx bu hlow
  go_enter Tryd.func92, Tryd.ntmps92
  go_wp2
  go_quiet (fail)
  go_wp2
  have c1' : (w.drewN nq).cell? ⟨g, j, none⟩ = some (.int .u64 (x : Int)) := c1
  go_region
  have HG2 : Hid (((w.drewN (nq + 1)).setCell ⟨g, j, none⟩ (.int .u64 (a : Int))).heap[g]? = some (row64 t (l.set j a))) := set64 (w := w.drewN (nq + 1)) HG.out
  have HB2 : Hid (Below g w ((w.drewN (nq + 1)).setCell ⟨g, j, none⟩ (.int .u64 (a : Int)))) := (below_dn g w (nq + 1)).setCell (Nat.le_refl _) _
  generalize (w.drewN (nq + 1)).setCell ⟨g, j, none⟩ (.int .u64 (a : Int)) = W at *
  have c2' := cell64 HG2.out (j := k) (x := y) (by rw [List.getElem?_set_ne hjk]; exact HY.out)
  have f2 := frozen_of_row W g k _ _ HG2.out
  clear c1 c2 c1' f1
  go_wp2
  go_region
  go_wp2
  go_end0
  exact ⟨rfl, set64 (w := W.drewN 1) HG2.out, (HB2.out.drew).setCell (Nat.le_refl _) _⟩

theorem i64_and_nat {a b : Nat} (ha : a < 64) (hb : b < 64) : bits .and .i64 (a : Int) (b : Int) = ((a &&& b : Nat) : Int) := by
  have : ∀ a : Nat, a < 64 → ∀ b : Nat, b < 64 → bits .and .i64 (a : Int) (b : Int) = ((a &&& b : Nat) : Int) := by decide +kernel
  exact this a ha b hb

set_option maxHeartbeats 2000000 in
theorem turn_any (t : TypeId) (w : World) (g : Nat) (f : Nat → Nat) (hg : w.heap[g]? = some (row64 t (sq f))) (hf : ∀ i, i < 64 → f i < 18446744073709551616) :
    Calls Tryd.prog 69 #[.pointer (some ⟨g, 0, none⟩)] w fun e w' => e = .returned (.tuple #[]) ∧ w'.heap[g]? = some (row64 t (sq (turned f))) ∧ Below g w w' := by
  have HG := hide1 hg
  clear hg
  go_enter Tryd.func69, Tryd.ntmps69
  go_wp2
  go_loopw [2, 3] (fun lo ha wr => ∃ r : Nat, r ≤ 6 ∧ lo = .int .u64 (lw r : Nat) ∧ ha = .int .i64 (hv r : Nat) ∧ wr.heap[g]? = some (row64 t (sq (stg f r))) ∧ Below g w wr) (fun _ ha _ => (intOf ha).toNat)
  case atStart => exact ⟨0, by omega, rfl, rfl, HG.out, Below.refl _ _⟩
  case round =>
    obtain ⟨r, hr, rfl, rfl, hrow, hbe⟩ := hrel
    by_cases hlt : r < 6
    · have hgd := good_at r hlt
      have hps := good.pos hgd
      have HF := hide1 (stg_lt hf r hr)
      have HS : Shy (stg f (r + 1) = lv (hv r) (lw (r + 1)) (stg f r)) := ⟨rfl⟩
      have q1 : IntKind.u64.wrap ((lw r : Int) * 2 ^ hv r) = ((lw r * 2 ^ hv r % 18446744073709551616 : Nat) : Int) := shl_wrap _ _
      have q2 : (lw r : Int) * 2 ^ hv r % 18446744073709551616 = ((lw r * 2 ^ hv r % 18446744073709551616 : Nat) : Int) := shl_cast _ _
      have q3 : bits .xor .u64 (lw r : Int) ((lw r * 2 ^ hv r % 18446744073709551616 : Nat) : Int) = (lw (r + 1) : Int) := by
        rw [u64_xor_nat _ _ (lw_lt r (by omega)) (Nat.mod_lt _ (by omega)), lw_next r hlt]
      have q4 : (hv (r + 1) : Int) = (hv r : Int) / 2 := by rw [← hv_next r hlt]; omega
      have LW : Shy (0 < hv r) := ⟨hps.1⟩
      have H2 : Shy (hv (r + 1) < hv r) := ⟨by rw [← hv_next r hlt]; omega⟩
      obtain ⟨F, hF⟩ : ∃ F, F = stg f r := ⟨_, rfl⟩
      rw [← hF] at HF HS hrow
      obtain ⟨h, hh⟩ : ∃ h, h = hv r := ⟨_, rfl⟩
      obtain ⟨lo, hlo⟩ : ∃ lo, lo = lw r := ⟨_, rfl⟩
      obtain ⟨lo', hlo'⟩ : ∃ lo', lo' = lw (r + 1) := ⟨_, rfl⟩
      obtain ⟨h', hh'⟩ : ∃ h', h' = hv (r + 1) := ⟨_, rfl⟩
      rw [← hh, ← hlo] at q1 q2 q3
      rw [← hlo'] at q3 HS hgd hps
      rw [← hh] at hgd hps HS q4 LW H2 ⊢
      rw [← hh'] at q4 H2
      rw [← hlo]
      obtain ⟨z, hz⟩ : ∃ z, z = lo * 2 ^ h % 18446744073709551616 := ⟨_, rfl⟩
      rw [← hz] at q1 q2 q3
      have HLO := hide1 hlo'
      have HHH := hide1 hh'
      have hpos : (0 : Int) < (h : Int) := by omega
      have hpos2 : 0 < h := by omega
      have h64 : h < 64 := hps.2.1
      have q5 : (h : Int) / 2 = (h' : Int) := q4.symm
      have q6 : IntKind.i64.wrap ((h : Int) / 2) = (h' : Int) := by rw [q5, IntKind.wrap_i64]; have := H2.out; omega
      have HGD : Shy (good h lo' = true) := ⟨hgd⟩
      have HPS : Shy (0 < h ∧ h < 64 ∧ lo' < 18446744073709551616) := ⟨hps⟩
      have HR := hide1 hrow
      have HB := hide1 hbe
      clear hz hlo hh hlo' hh' hF hgd hps hrow hbe q4
      go_wp2
      clear q1 q2 q3
      obtain ⟨Z, hZ⟩ : ∃ Z, Z = wr := ⟨_, rfl⟩
      subst hZ
      go_loopw [14] (fun i wr => ∃ J : Nat, J ≤ 64 ∧ i = .int .i64 J ∧ wr.heap[g]? = some (row64 t (sq (lvTo h lo' F J))) ∧ Below g w wr) (fun i _ => 64 - (intOf i).toNat)
      case atStart =>
        refine ⟨0, by omega, rfl, ?_, HB.out⟩
        rw [sq_congr (fun i _ => lvTo_zero h lo' F i)]
        exact HR.out
      case round =>
        obtain ⟨J, hJ, rfl, hrow, hbe⟩ := hrel
        clear HR HB
        by_cases hlt2 : J < 64
        · have q7 : bits .and .i64 (J : Int) (h : Int) = ((J &&& h : Nat) : Int) := i64_and_nat hlt2 h64
          have HR := hide1 hrow
          have HB := hide1 hbe
          clear hrow hbe
          by_cases hz : J &&& h = 0
          · rw [hz] at q7
            have k := cross_step HGD.out F hz hlt2
            have up := good.up HGD.out hlt2 hz
            have HC := hide1 (cross_any t wr g J h lo' (F J) (F (J + h)) _ HR.out (by rw [sq_get hlt2, k.1]) (by rw [sq_get up.2, k.2.1]) up.2 HPS.out.1 HPS.out.2.2 (HF.out J hlt2) (HF.out _ up.2))
            rw [← k.2.2] at HC
            clear k up hz
            go_wp2_with (go_at_call 92; refine HC.out.mono ?_; rintro e w1 ⟨rfl, hr1, hb1⟩)
            go_roundw
            case rel => exact ⟨J + 1, by omega, by go_num, hr1, HB.out.trans hb1⟩
            case measure => simp [intOf]; omega
          · have q8 : ((((J &&& h : Nat) : Int)) == 0) = false := by rw [beq_eq_false_iff_ne]; omega
            have HZ : Shy (¬ J &&& h = 0) := ⟨hz⟩
            obtain ⟨y, hy⟩ : ∃ y, y = J &&& h := ⟨_, rfl⟩
            rw [← hy] at q7 q8
            clear hz hy
            go_wp2
            go_roundw
            case rel =>
              refine ⟨J + 1, by omega, by go_num, ?_, HB.out⟩
              rw [sq_congr (fun i hi => lvTo_pass HGD.out F HZ.out hi)]
              exact HR.out
            case measure => simp [intOf]; omega
        · obtain rfl : J = 64 := by omega
          have HR := hide1 hrow
          have HB := hide1 hbe
          clear hrow hbe
          go_wp2
          go_roundw
          case rel =>
            refine ⟨r + 1, by omega, by rw [HLO.out], by rw [HHH.out], ?_, HB.out⟩
            rw [HS.out, ← sq_congr (fun i hi => lvTo_all (h := h) (low := lo') (f := F) hi)]
            exact HR.out
          case measure => simp [intOf]; have := H2.out; omega
    · obtain rfl : r = 6 := by omega
      have HR := hide1 hrow
      have HB := hide1 hbe
      clear hrow hbe
      go_wp2
      go_end0
      exact ⟨rfl, HR.out, HB.out⟩
end Go.Proofs.YtlkkninnfiaedaaDoor.T

namespace Go.Proofs.YtlkkninnfiaedaaDoor.T
open Go.RowKit
set_option maxRecDepth 100000
attribute [local go_sem] not_any

theorem tneeded_any (n s : Nat) (w : World) (hn : n ≤ 4194304) (hs : s = 8 ∨ s = 64) :
    Calls Tryd.prog 67 #[.int .i64 n, .int .i64 s] w fun e w' => e = .returned (.int .i64 (need n s : Nat)) ∧ w' = w := by
  rcases hs with rfl | rfl
  · rw [need8]
    go_enter Tryd.func67, Tryd.ntmps67
    go_wp2
    go_ret
    refine ⟨?_, rfl⟩
    show Ending.returned (.int .i64 (((n : Int) + 8 - 1) / 8)) = _
    rw [show ((n : Int) + 8 - 1) / 8 = (((n + 7) / 8 : Nat) : Int) by omega]
  · rw [need64]
    go_enter Tryd.func67, Tryd.ntmps67
    go_wp2
    go_ret
    refine ⟨?_, rfl⟩
    show Ending.returned (.int .i64 (((n : Int) + 64 - 1) / 64)) = _
    rw [show ((n : Int) + 64 - 1) / 64 = (((n + 63) / 64 : Nat) : Int) by omega]

theorem ret_sl {a : Option Addr} {n m c : Nat} (h : n = m) : Ending.returned (.slice a n c) = .returned (.slice a m c) := by rw [h]
theorem inBlock_any (w : World) (g o n c b : Nat) (h1 : b * 64 < n) (h2 : n ≤ 4194304) (hc : n ≤ c) :
    Calls Tryd.prog 93 #[.slice (some ⟨g, o, none⟩) n c, .int .i64 b] w fun e w' => e = .returned (.slice (some ⟨g, o + b * 64 * 2, none⟩) (min 64 (n - b * 64)) (c - b * 64)) ∧ w' = w := by
  obtain ⟨f, hf⟩ : ∃ f, f = b * 64 := ⟨_, rfl⟩
  obtain ⟨t, ht⟩ : ∃ t, t = min (f + 64) n := ⟨_, rfl⟩
  rw [show min 64 (n - b * 64) = t - f by omega, ← hf]
  have q1 : IntKind.i64.wrap ((b : Int) * 64) = (f : Int) := by rw [IntKind.wrap_i64]; omega
  have q2 : IntKind.i64.wrap ((f : Int) + 64) = (f : Int) + 64 := by rw [IntKind.wrap_i64]; omega
  have q3 : min ((f : Int) + 64) (n : Int) = (t : Int) := by omega
  have q4 : f ≤ t := by omega
  have q5 : t ≤ c := by omega
  have q6 : ¬ c = f := by omega
  have HT := hide1 ht
  clear ht hf q3
  go_enter Tryd.func93, Tryd.ntmps93
  go_wp2
  all_goals first
    | (go_ret; refine ⟨ret_sl ?_, rfl⟩; have := HT.out; omega)
    | (exfalso; have := HT.out; omega)

/- rows that are read: word p of row j is R j p -/
structure Rws (w : World) (n : Nat) (a : Option Addr) (R : Nat → Nat → Nat) : Prop where
  at' : ∀ j, j < n → ∃ g o, a = some ⟨g, o, none⟩ ∧ w.cell? ⟨g, o + j * 2, none⟩ = some (.int .u64 (R j 0 : Nat)) ∧ w.cell? ⟨g, o + j * 2 + 1, none⟩ = some (.int .u64 (R j 1 : Nat))
  lt : ∀ j p, R j p < 18446744073709551616
theorem Rws.below {B : Nat} {w w' : World} {n : Nat} {a : Option Addr} {R : Nat → Nat → Nat} (h : Rws w n a R) (hB : Below B w w') (hs : w.heap.size ≤ B) : Rws w' n a R :=
  ⟨fun j hj => by
    obtain ⟨g, o, e, c0, c1⟩ := h.at' j hj
    have l0 := lt_cell c0
    exact ⟨g, o, e, (hB.cell (p := ⟨g, o + j * 2, none⟩) (by simp; omega)).trans c0, (hB.cell (p := ⟨g, o + j * 2 + 1, none⟩) (by simp; omega)).trans c1⟩, h.lt⟩
theorem Rws.first {w : World} {n : Nat} {a : Option Addr} {R : Nat → Nat → Nat} (h : Rws w n a R) (hn : 0 < n) : ∃ g o, a = some ⟨g, o, none⟩ ∧ g < w.heap.size ∧ ∀ j, j < n → w.cell? ⟨g, o + j * 2, none⟩ = some (.int .u64 (R j 0 : Nat)) ∧ w.cell? ⟨g, o + j * 2 + 1, none⟩ = some (.int .u64 (R j 1 : Nat)) := by
  obtain ⟨g, o, rfl, c0, _⟩ := h.at' 0 hn
  refine ⟨g, o, rfl, lt_cell c0, fun j hj => ?_⟩
  obtain ⟨g', o', e, d⟩ := h.at' j hj
  cases e
  exact d

theorem wpList_store_own {P : Program} {ops : Array Oper} {rest : List Oper} {o : Oper} {a : Act} {w : World} {Q : Exit → Act → World → Prop} (hgd : o.guard = none) (ty : TypeId) (x y : Operand) (ho : o.op = .store ty x y)
    (g : Nat) (hx : a.eval x = .pointer (some ⟨g, 0, none⟩)) (cs' : Array Value) (hy : a.eval y = .agg cs') (t : TypeId) (cs : Array Value) (hg : w.heap[g]? = some (.cells cs t (0, 0)))
    (hi : (P.info? ty).map (·.size) = some cs'.size) (hs : cs.size = cs'.size) (h1 : cs'.all (·.oneCell') = true)
    (h : wpList P ops Q rest (a.put o.dst undef) (w.setRow g cs')) : wpList P ops Q (o :: rest) a w :=
  wpList_plain hgd fun K hK => by
    have e := run_storeVar_row (P := P) w g t ty cs cs' hg hi hs h1
    unfold Oper.wp execOp
    simp only [ho, hx, hy, Instr.storeAt, Instr.sureAddr, Sem.run_bind, Sem.run_pure, Result.andThen_ok, e]
    exact hK _ _ h
theorem ret_row {fn : Func} {p : Tmp} {ty : TypeId} (h : fn.results = #[.cell p ty]) {R : Ending → World → Prop} {a : Act} {w : World} (g : Nat) (t : TypeId) (cs : Array Value) {n : Nat} {el : TypeId} (hp : a.tmps.getD p undef = .pointer (some ⟨g, 0, none⟩))
    (hg : w.heap[g]? = some (.cells cs t (0, 0))) (hu : Tryd.prog.underlying ty = some (.array n el)) (hi : (Tryd.prog.info? ty).map (·.size) = some cs.size)
    (hd : a.defers = []) (hR : R (.returned (.agg cs)) w) : bodyPost Tryd.prog fn R .ret a w :=
  bodyPost_ret_by (results_cell_row (P := Tryd.prog) h _ w g t cs (0, 0) _ hp hg hu rfl hi) hd hR
theorem below_setRow {B g : Nat} {w0 w : World} (hb : Below B w0 w) (hBg : B ≤ g) (cs : Array Value) : Below B w0 (w.setRow g cs) :=
  hb.trans ⟨rfl, rfl, rfl, by simp [World.setRow], fun k hk => setRow_other w g k cs (by omega)⟩
theorem all_one {cs : List Value} (h : ∀ v ∈ cs, v.oneCell' = true) : cs.toArray.all (·.oneCell') = true :=
  Array.all_eq_true_iff_forall_mem.2 (fun v hv => h v (by simpa using hv))
theorem size57 (f : Nat → Nat) : (Tryd.prog.info? 129).map (·.size) = some (u64s (sq f)).toArray.size := by
  rw [show (u64s (sq f)).toArray.size = 64 by simp [u64s, sq]]
  kernel_rfl

/- a block of rows, of each the one word; what is behind is 0 -/
def blkF (R : Nat → Nat → Nat) (n p b j : Nat) : Nat := if b * 64 + j < n then R (b * 64 + j) p else 0
def upTo (F : Nat → Nat) (k j : Nat) : Nat := if j < k then F j else 0
theorem blkF_lt {w : World} {n : Nat} {a : Option Addr} {R : Nat → Nat → Nat} (h : Rws w n a R) (p b j : Nat) : blkF R n p b j < 18446744073709551616 := by
  unfold blkF
  by_cases h1 : b * 64 + j < n
  · rw [if_pos h1]; exact h.lt _ _
  · rw [if_neg h1]; omega
theorem sq_upTo {F : Nat → Nat} {k : Nat} : sq (upTo F (k + 1)) = (sq (upTo F k)).set k (F k) := by
  rw [sq_set]
  refine sq_congr fun i hi => ?_
  unfold upTo
  by_cases h : i = k
  · rw [if_pos h, if_pos (by omega), h]
  · rw [if_neg h]
    by_cases h1 : i < k
    · rw [if_pos h1, if_pos (by omega)]
    · rw [if_neg h1, if_neg (by omega)]
theorem sq_zero (F : Nat → Nat) : sq (fun _ => 0) = sq (upTo F 0) := sq_congr fun i _ => (if_neg (Nat.not_lt_zero i)).symm

end Go.Proofs.YtlkkninnfiaedaaDoor.T

namespace Go.Proofs.YtlkkninnfiaedaaDoor.T
open Go.RowKit
set_option maxRecDepth 100000
attribute [local go_sem] not_any

def lrow (vs : List Value) : Obj := .cells vs.toArray 39 (0, 0)
theorem make_lists (m : Nat) (hm : m ≤ 4096) (w : World) : (Instr.makeSlice 125 (.int .i64 (m : Int)) (.int .i64 (m : Int))).run Tryd.prog w = .ok (.slice (some ⟨w.heap.size, 0, none⟩) m m) (w.alloc (lrow (List.replicate m (.slice none 0 0)))) := by
  have hi : (Tryd.prog.info? 39).map (fun i => (i.zero, i.size, i.bytes)) = some (some (.slice none 0 0), 1, 24) := by kernel_rfl
  obtain ⟨i0, hi, hz0, hz1, hz2⟩ := info_parts hi
  have h := run_make (P := Tryd.prog) w 125 39 i0 _ Tryd.underlying125 hi hz0 .i64 .i64 (m : Int) (m : Int) (by omega) (by omega) (by rw [hz2]; omega) (by omega)
  rw [h, hz1]
  have e : madeCells (Value.slice none 0 0).cells ((m : Int).toNat * 1) = (List.replicate m (Value.slice none 0 0)).toArray := by
    apply Array.ext
    · simp [madeCells]
    · intro j h1 h2
      simp [madeCells, Value.cells, Nat.mod_one]
  rw [e]
  rfl
theorem lrow_cell {w : World} {g j : Nat} {v : Value} {vs : List Value} (h : w.heap[g]? = some (lrow vs)) (hj : vs[j]? = some v) : w.cell? ⟨g, j, none⟩ = some v := by
  rw [cell_of_row w g j _ _ (0, 0) h]
  simp [hj]
theorem lrow_set {w : World} {g j : Nat} {v : Value} {vs : List Value} (h : w.heap[g]? = some (lrow vs)) : (w.setCell ⟨g, j, none⟩ v).heap[g]? = some (lrow (vs.set j v)) := by
  rw [heap_setCell_same w g j _ _ _ h]
  unfold lrow
  congr 2
  simp

theorem cell_heap {w w' : World} {g : Nat} (h : w'.heap[g]? = w.heap[g]?) (j : Nat) : w'.cell? ⟨g, j, none⟩ = w.cell? ⟨g, j, none⟩ := by simp only [World.cell?, h]

/- m lists of nb words, in blocks from b on, each in a block of its own -/
structure Wds (b : Nat) (w : World) (gh : Nat) (gi : Nat → Nat) (m nb : Nat) (F : Nat → List Nat) : Prop where
  hd : ∀ i, i < m → w.cell? ⟨gh, i, none⟩ = some (.slice (some ⟨gi i, 0, none⟩) nb nb)
  row : ∀ i, i < m → w.heap[gi i]? = some (wrow (F i))
  len : ∀ i, i < m → (F i).length = nb
  up : ∀ i, i < m → b ≤ gi i ∧ gi i ≠ gh
  gh : b ≤ gh
  apart : ∀ i j, i < m → j < m → i ≠ j → gi i ≠ gi j
theorem Wds.kept {b : Nat} {w w' : World} {gh : Nat} {gi : Nat → Nat} {m nb : Nat} {F : Nat → List Nat} (h : Wds b w gh gi m nb F) {B : Nat} (hb : Below B w w') (hg : gh < B) (hi : ∀ i, i < m → gi i < B) : Wds b w' gh gi m nb F :=
  ⟨fun i him => (hb.cell (p := ⟨gh, i, none⟩) hg).trans (h.hd i him), fun i him => (hb.block _ (hi i him)).trans (h.row i him), h.len, h.up, h.gh, h.apart⟩
theorem Wds.lt {b : Nat} {w : World} {gh : Nat} {gi : Nat → Nat} {m nb : Nat} {F : Nat → List Nat} (h : Wds b w gh gi m nb F) : ∀ i, i < m → gh < w.heap.size ∧ gi i < w.heap.size := fun i hi => ⟨lt_cell (h.hd i hi), lt_heap (h.row i hi)⟩
theorem Wds.all {b : Nat} {w w' : World} {gh : Nat} {gi : Nat → Nat} {m nb : Nat} {F : Nat → List Nat} (h : Wds b w gh gi m nb F) (hb : Below w.heap.size w w') : Wds b w' gh gi m nb F :=
  ⟨fun i him => (hb.cell (p := ⟨gh, i, none⟩) (h.lt i him).1).trans (h.hd i him), fun i him => (hb.block _ (h.lt i him).2).trans (h.row i him), h.len, h.up, h.gh, h.apart⟩
theorem Wds.set {b : Nat} {w : World} {gh : Nat} {gi : Nat → Nat} {m nb : Nat} {F : Nat → List Nat} (h : Wds b w gh gi m nb F) {i0 : Nat} (h0 : i0 < m) (q x : Nat) : Wds b (w.setCell ⟨gi i0, q, none⟩ (.int .u64 (x : Int))) gh gi m nb (fun i => if i = i0 then (F i).set q x else F i) := by
  refine ⟨fun i hi => ?_, fun i hi => ?_, fun i hi => ?_, h.up, h.gh, h.apart⟩
  · rw [← h.hd i hi]
    exact cell_heap (heap_setCell_other w ⟨gi i0, q, none⟩ gh _ (fun e => (h.up i0 h0).2 e.symm)) i
  · by_cases e : i = i0
    · subst e
      rw [if_pos rfl]
      exact wset (h.row i hi)
    · rw [if_neg e, heap_setCell_other w ⟨gi i0, q, none⟩ (gi i) _ (h.apart i i0 hi h0 e)]
      exact h.row i hi
  · by_cases e : i = i0
    · simp only [if_pos e, List.length_set]; exact h.len i hi
    · simp only [if_neg e]; exact h.len i hi
theorem Wds.congr {b : Nat} {w : World} {gh : Nat} {gi : Nat → Nat} {m nb : Nat} {F G : Nat → List Nat} (h : Wds b w gh gi m nb F) (e : ∀ i, i < m → F i = G i) : Wds b w gh gi m nb G :=
  ⟨h.hd, fun i hi => by rw [← e i hi]; exact h.row i hi, fun i hi => by rw [← e i hi]; exact h.len i hi, h.up, h.gh, h.apart⟩

/- the heads of lists, the first k made -/
def hds (gh nb m k : Nat) : List Value := (List.range m).map fun i => if i < k then Value.slice (some ⟨gh + 1 + i, 0, none⟩) nb nb else .slice none 0 0
theorem hds_zero (gh nb m : Nat) : hds gh nb m 0 = List.replicate m (.slice none 0 0) := by
  refine List.ext_getElem? fun j => ?_
  by_cases hj : j < m
  · simp [hds, hj]
  · rw [List.getElem?_eq_none (by simp [hds]; omega), List.getElem?_eq_none (by simp; omega)]
theorem hds_get {gh nb m k j : Nat} (hj : j < m) : (hds gh nb m k)[j]? = some (if j < k then Value.slice (some ⟨gh + 1 + j, 0, none⟩) nb nb else .slice none 0 0) := by simp [hds, hj]
theorem hds_succ {gh nb m k : Nat} : hds gh nb m (k + 1) = (hds gh nb m k).set k (.slice (some ⟨gh + 1 + k, 0, none⟩) nb nb) := by
  refine List.ext_getElem? fun j => ?_
  by_cases hj : j < m
  · rw [hds_get hj, List.getElem?_set, show (hds gh nb m k).length = m by simp [hds]]
    by_cases e : k = j
    · subst e; simp [hj]
    · rw [if_neg e, hds_get hj]
      by_cases h1 : j < k
      · rw [if_pos h1, if_pos (by omega)]
      · rw [if_neg h1, if_neg (by omega)]
  · rw [List.getElem?_eq_none (by simp [hds]; omega), List.getElem?_eq_none (by simp [hds]; omega)]

/- columns from off on, the first k of them with another word -/
def laidTo (F : Nat → List Nat) (off q : Nat) (f : Nat → Nat) (k i : Nat) : List Nat := if off ≤ i ∧ i < off + k then (F i).set q (f (i - off)) else F i
structure Kpw (b : Nat) (w w' : World) (m : Nat) (gi : Nat → Nat) : Prop where
  bel : Below b w w'
  oth : ∀ k, k < w.heap.size → (∀ i, i < m → k ≠ gi i) → w'.heap[k]? = w.heap[k]?
theorem Kpw.refl (b : Nat) (w : World) (m : Nat) (gi : Nat → Nat) : Kpw b w w m gi := ⟨Below.refl _ _, fun _ _ _ => rfl⟩
theorem Kpw.dn {b : Nat} {w w' : World} {m : Nat} {gi : Nat → Nat} (h : Kpw b w w' m gi) (q : Nat) : Kpw b w (w'.drewN q) m gi := ⟨h.bel.trans (below_dn _ _ _), h.oth⟩
theorem Kpw.set {b : Nat} {w w' : World} {m : Nat} {gi : Nat → Nat} (h : Kpw b w w' m gi) {i : Nat} (hi : i < m) (hb : b ≤ gi i) (q : Nat) (v : Value) : Kpw b w (w'.setCell ⟨gi i, q, none⟩ v) m gi :=
  ⟨h.bel.setCell hb v, fun k hk hne => (heap_setCell_other w' ⟨gi i, q, none⟩ k v (hne i hi)).trans (h.oth k hk hne)⟩
theorem Wds.dn {b : Nat} {w : World} {gh : Nat} {gi : Nat → Nat} {m nb : Nat} {F : Nat → List Nat} (h : Wds b w gh gi m nb F) (q : Nat) : Wds b (w.drewN q) gh gi m nb F := ⟨h.hd, h.row, h.len, h.up, h.gh, h.apart⟩

end Go.Proofs.YtlkkninnfiaedaaDoor.T
