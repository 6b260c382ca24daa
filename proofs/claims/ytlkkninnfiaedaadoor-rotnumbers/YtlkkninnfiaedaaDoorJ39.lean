/- Ones counted: Count, Odd. The walk of BitsGets. Bits of words: Words, and the document's own answer. A square in memory: cross, turn. -/
import Derived.Test.YtlkkninnfiaedaaDoorJ30
import Derived.Test.YtlkkninnfiaedaaDoorJ38
import Derived.Test.YtlkkninnfiaedaaDoorJ31
import Derived.Test.YtlkkninnfiaedaaDoorJ37
import Derived.BigRegion
namespace Go.Proofs.YtlkkninnfiaedaaDoor.T
open Go.RowKit
set_option maxRecDepth 100000
attribute [local go_sem] not_any mf_any

theorem wrap_small {x : Nat} (h : x < 18446744073709551616) : IntKind.u64.wrap (x : Int) = (x : Int) := by
  rw [IntKind.wrap_u64]; omega

theorem wraps_i64 (n : Int) (h₀ : 0 ≤ n) (h₁ : n < 2 ^ 63) : IntKind.i64.wrap n = n := by rw [IntKind.wrap_i64]; omega

theorem and_127 {c : Nat} (h : c < 9223372036854775808) : bits .and .i64 (c : Int) 127 = ((c % 128 : Nat) : Int) := by
  have := bits_mask .i64 63 (by decide) wraps_i64 7 (by decide) (c : Int) (by omega) (by omega)
  simpa using this

theorem pk_lt (k : Nat) : ∀ (ds : List Nat), (∀ d ∈ ds, d < 2 ^ k) → pk k ds < 2 ^ (k * ds.length)
  | [], _ => by simp [pk]
  | d :: ds, h => by
    have h1 := pk_lt k ds (fun x hx => h x (by simp [hx]))
    have h2 := h d (by simp)
    rw [pk, List.length_cons, Nat.mul_add, Nat.mul_one, Nat.pow_add, Nat.mul_comm (2 ^ (k * ds.length))]
    have : 2 ^ k * pk k ds + 2 ^ k ≤ 2 ^ k * 2 ^ (k * ds.length) := by
      rw [← Nat.mul_succ]
      exact Nat.mul_le_mul_left _ h1
    omega

theorem chunk_pad (l : List Bool) (k : Nat) : ∃ l', l'.length = 64 ∧ pack l' = chunk 64 l k ∧ l'.count true = ((l.drop (64 * k)).take 64).count true := by
  refine ⟨(l.drop (64 * k)).take 64 ++ List.replicate (64 - ((l.drop (64 * k)).take 64).length) false, ?_, pack_falses _ _, ?_⟩
  · have : ((l.drop (64 * k)).take 64).length ≤ 64 := by simp; omega
    rw [List.length_append, List.length_replicate]
    omega
  · rw [List.count_append, List.count_replicate]
    simp

theorem and_lit (x m : Nat) (M : Int) (hM : M = (m : Int)) (hx : x < 18446744073709551616) (hm : m < 18446744073709551616) : bits .and .u64 (x : Int) M = ((x &&& m : Nat) : Int) := by rw [hM, u64_and_nat _ _ hx hm]

theorem and_le {x m : Nat} : x &&& m ≤ m := Nat.and_le_right

theorem count_step (l : List Bool) (k : Nat) : (l.take (64 * (k + 1))).count true = (l.take (64 * k)).count true + ((l.drop (64 * k)).take 64).count true := by
  rw [← List.count_append, ← List.take_add]
  congr 2

end Go.Proofs.YtlkkninnfiaedaaDoor.T

namespace Go.Proofs.YtlkkninnfiaedaaDoor.T
open Go.RowKit
set_option maxRecDepth 100000
attribute [local go_sem] not_any mf_any field_words

theorem info4 : (Tryd.prog.info? 4).map (fun i => (i.zero, i.size, i.bytes)) = some (some (.bool false), 1, 1) := by kernel_rfl

theorem int_odd (x : Nat) : ((x : Int) % 2 == 1) = decide (x % 2 = 1) := by
  by_cases h : x % 2 = 1
  · have : (x : Int) % 2 = 1 := by omega
    simp [h, this]
  · have : ¬ (x : Int) % 2 = 1 := by omega
    simp [h, this]

theorem below_alloc1 (w : World) (o : Obj) : Below w.heap.size w (w.alloc o) := (Below.refl _ _).alloc (Nat.le_refl _) _

theorem own_bl {w : World} {base n : Nat} {a : Option Addr} {c : Nat} {l : List Bool} (h : w.ownsRow base 4 1 (.slice a n c) n (bools l)) (hl : l.length = n) : Bl w n a l :=
  ⟨hl, fun j x hj => by
    have hjn : j < n := by rw [← hl]; exact (List.getElem?_eq_some_iff.1 hj).1
    obtain ⟨g, c', hv, _⟩ := row_some h (by omega)
    cases hv
    refine ⟨g, 0, rfl, ?_⟩
    rw [Nat.zero_add, h.cellAt j (by omega)]
    simp [bools, hj]⟩

theorem bools_set (l : List Bool) (j : Nat) (x : Bool) : (bools l).set j (.bool x) = bools (l.set j x) := by simp [bools]
theorem bools_one (l : List Bool) : ∀ v ∈ bools l, v.oneCell' = true := by
  intro v hv
  obtain ⟨x, _, rfl⟩ := List.mem_map.1 hv
  rfl

theorem get_bl (b : Nat) (w : World) (n : Nat) (a : Option Addr) (l : List Bool) (i : Int) (hv : Vc b w n a l) (hn : n ≤ 4194304) :
    Calls Tryd.prog 21 #[.agg #[.int .i64 n, .slice a (need n 64) (need n 64)], .int .i64 i] w fun e w' => e = .returned (.bool (getI l i)) ∧ Below w.heap.size w w' := by
  refine (get_any b w n a l i hv hn).mono ?_
  rintro e w' ⟨rfl, hq⟩
  exact ⟨rfl, gr_below hq⟩
theorem len_bl (n : Int) (s : Value) (w : World) (hs : s.oneCell' = true) :
    Calls Tryd.prog 17 #[.agg #[.int .i64 n, s]] w fun e w' => e = .returned (.int .i64 n) ∧ Below w.heap.size w w' := by
  refine (len_any n s w hs).mono ?_
  rintro e w' ⟨rfl, rfl⟩
  exact ⟨rfl, below_alloc1 _ _⟩
end Go.Proofs.YtlkkninnfiaedaaDoor.T

namespace Go.Proofs.YtlkkninnfiaedaaDoor.T
open Go.RowKit
set_option maxRecDepth 100000
attribute [local go_sem] not_any mf_any field_words

/- the first n bits of words -/
def bitsOf (n : Nat) (ws : List Nat) : List Bool := (List.range n).map (fun i => (ws.getD (i / 64) 0).testBit (i % 64))
theorem bitsOf_length (n : Nat) (ws : List Nat) : (bitsOf n ws).length = n := by simp [bitsOf]
theorem bitsOf_get {n : Nat} {ws : List Nat} {i : Nat} (h : i < n) : (bitsOf n ws)[i]? = some ((ws.getD (i / 64) 0).testBit (i % 64)) := by
  simp [bitsOf, h]

theorem copy_nl {b' : Nat} {W : World} {n c : Nat} {a av : Option Addr} {l0 : List Bool} {ws : List Nat} (hs : Nl W (need n 64) a ws) (hlt : ∀ (k x : Nat), ws[k]? = some x → x < 18446744073709551616) (hd : Vc b' W n av l0) :
    ∃ W', (Builtin.copy_ #[39, 39] 3 #[.slice av (need n 64) (need n 64), .slice a (need n 64) c]).run Tryd.prog W = .ok (goInt (need n 64)) W' ∧ Wr b' W' n av ws ∧ W.grownBy W' (blk av) := by
  by_cases h0 : n = 0
  · subst h0
    have hl : ws = [] := List.eq_nil_of_length_eq_zero hs.len
    have hl0 : l0 = [] := List.eq_nil_of_length_eq_zero hd.len
    subst hl hl0
    exact ⟨W, run_copy_none (P := Tryd.prog) W 39 39 3 22 av a _ _ _ c Tryd.underlying39 size55 (by decide), hd.wr, ⟨rfl, rfl, rfl, Nat.le_refl _, fun _ _ _ => rfl⟩⟩
  · have hp : 0 < need n 64 := by rw [need64]; omega
    obtain ⟨g, rfl, hb, hg, _⟩ := hd.cell hp
    obtain ⟨x, hx⟩ : ∃ x, ws[0]? = some x := ⟨_, List.getElem?_eq_getElem (by rw [hs.len]; exact hp)⟩
    obtain ⟨gs, o, rfl, _⟩ := hs.at' 0 x hx
    have e1 : (u64s ws).length = need n 64 := by simp [u64s, hs.len]
    have e2 : (u64s (chunks 64 l0)).toArray.size = need n 64 := by simp [u64s, chunks_length, hd.len]
    have h := run_copy_row (P := Tryd.prog) W 39 39 3 22 g 0 (need n 64) (need n 64) ⟨gs, o, none⟩ (need n 64) c (u64s (chunks 64 l0)).toArray 22 (u64s ws) Tryd.underlying39 size55 hg (by rw [e1]; simp) (by
      intro j v hv
      simp only [u64s, List.getElem?_map, Option.map_eq_some_iff] at hv
      obtain ⟨y, hy, rfl⟩ := hv
      obtain ⟨g', o', e, hc⟩ := hs.at' j y hy
      cases e
      rw [addr_add]
      exact hc) (by rw [e1, e2]; omega) (u64s_one ws)
    rw [e1] at h
    have e3 : (List.take 0 (u64s (chunks 64 l0)).toArray.toList ++ u64s ws ++ List.drop (0 + need n 64) (u64s (chunks 64 l0)).toArray.toList).toArray = (u64s ws).toArray := by
      rw [List.drop_eq_nil_of_le (by simpa using Nat.le_of_eq e2)]
      simp
    rw [e3] at h
    exact ⟨_, h, ⟨hs.len, hlt, .inr ⟨g, rfl, hb, setRow_heap W g _ _ _ _ hg⟩⟩, ⟨rfl, rfl, rfl, by simp, fun k _ hk => setRow_other W g k _ (fun e => hk (by simp [blk, e]))⟩⟩

end Go.Proofs.YtlkkninnfiaedaaDoor.T

namespace Go.Proofs.YtlkkninnfiaedaaDoor.T
open Go.RowKit
set_option maxRecDepth 100000
attribute [local go_sem] not_any

structure Shy (p : Prop) : Prop where
  out : p

def row64 (t : TypeId) (l : List Nat) : Obj := .cells (u64s l).toArray t (0, 0)
theorem cell64 {w : World} {g j x : Nat} {t : TypeId} {l : List Nat} (h : w.heap[g]? = some (row64 t l)) (hj : l[j]? = some x) : w.cell? ⟨g, j, none⟩ = some (.int .u64 (x : Int)) := by
  rw [cell_of_row w g j _ t (0, 0) h]
  simp [u64s, hj]
theorem set64 {w : World} {g j x : Nat} {t : TypeId} {l : List Nat} (h : w.heap[g]? = some (row64 t l)) : (w.setCell ⟨g, j, none⟩ (.int .u64 (x : Int))).heap[g]? = some (row64 t (l.set j x)) := by
  rw [heap_setCell_same w g j _ t _ h]
  unfold row64 u64s
  congr 2
  simp
theorem div_cast (x h : Nat) : (x : Int) / 2 ^ h = ((x / 2 ^ h : Nat) : Int) := by rw [Int.natCast_ediv, Int.natCast_pow]; rfl
theorem mul_cast (x h : Nat) : (x : Int) * 2 ^ h = ((x * 2 ^ h : Nat) : Int) := by rw [Int.natCast_mul, Int.natCast_pow]; rfl
theorem shl_cast (x h : Nat) : (x : Int) * 2 ^ h % 18446744073709551616 = ((x * 2 ^ h % 18446744073709551616 : Nat) : Int) := by
  rw [mul_cast]
  generalize x * 2 ^ h = z
  omega
theorem shl_wrap (x h : Nat) : IntKind.u64.wrap ((x : Int) * 2 ^ h) = ((x * 2 ^ h % 18446744073709551616 : Nat) : Int) := by
  rw [← shl_cast, IntKind.wrap_u64]

theorem below_dn (B : Nat) (w : World) (n : Nat) : Below B w (w.drewN n) := ⟨rfl, rfl, rfl, Nat.le_refl _, fun _ _ => rfl⟩

set_option maxHeartbeats 1000000 in
theorem cross_any (t : TypeId) (w : World) (g j h low x y : Nat) (l : List Nat) (hg : w.heap[g]? = some (row64 t l)) (hx : l[j]? = some x) (hy : l[j + h]? = some y) (hj : j + h < 64) (hp : 0 < h) (hlow : low < 18446744073709551616) (bx : x < 18446744073709551616) (bu : y < 18446744073709551616) :
    Calls Tryd.prog 92 #[.pointer (some ⟨g, 0, none⟩), .int .i64 j, .int .i64 h, .int .u64 low] w fun e w' => e = .returned (.tuple #[]) ∧ w'.heap[g]? = some (row64 t ((l.set j (x ^^^ (unl h low x y * 2 ^ h % 18446744073709551616))).set (j + h) (y ^^^ unl h low x y))) ∧ Below g w w' := by
  obtain ⟨k, hk⟩ : ∃ k, k = j + h := ⟨_, rfl⟩
  have hjk : j ≠ k := by omega
  rw [← hk] at hy hj ⊢
  have q1 : IntKind.i64.wrap ((j : Int) + (h : Int)) = (k : Int) := by rw [IntKind.wrap_i64]; omega
  have q0 : (j : Int) + (h : Int) = (k : Int) := by omega
  have hq : x / 2 ^ h < 18446744073709551616 := Nat.lt_of_le_of_lt (Nat.div_le_self _ _) bx
  obtain ⟨z, hz⟩ : ∃ z, z = x / 2 ^ h ^^^ y := ⟨_, rfl⟩
  have bz : z < 18446744073709551616 := by rw [hz]; exact (xor_bits _ _ hq bu).1
  have e1 : bits .xor .u64 ((x : Int) / 2 ^ h) (y : Int) = (z : Int) := by rw [div_cast, u64_xor_nat _ _ hq bu, hz]
  obtain ⟨u, hu⟩ : ∃ u, u = unl h low x y := ⟨_, rfl⟩
  have eu : u = z &&& low := by rw [hu, hz]; rfl
  have bu' : u < 18446744073709551616 := by rw [eu]; exact Nat.lt_of_le_of_lt Nat.and_le_right hlow
  have e2 : bits .and .u64 (z : Int) (low : Int) = (u : Int) := by rw [u64_and_nat _ _ bz hlow, eu]
  rw [← hu]
  obtain ⟨v, hv⟩ : ∃ v, v = u * 2 ^ h % 18446744073709551616 := ⟨_, rfl⟩
  have bv : v < 18446744073709551616 := by rw [hv]; exact Nat.mod_lt _ (by omega)
  have e3 : IntKind.u64.wrap ((u : Int) * 2 ^ h) = (v : Int) := by rw [shl_wrap, hv]
  have e3' : (u : Int) * 2 ^ h % 18446744073709551616 = (v : Int) := by rw [shl_cast, hv]
  rw [← hv]
  obtain ⟨a, ha⟩ : ∃ a, a = x ^^^ v := ⟨_, rfl⟩
  have e4 : bits .xor .u64 (x : Int) (v : Int) = (a : Int) := by rw [u64_xor_nat _ _ bx bv, ha]
  obtain ⟨b, hb⟩ : ∃ b, b = y ^^^ u := ⟨_, rfl⟩
  have e5 : bits .xor .u64 (y : Int) (u : Int) = (b : Int) := by rw [u64_xor_nat _ _ bu bu', hb]
  rw [← ha, ← hb]
  have HG := hide1 hg
  have HY := hide1 hy
  have c1 := cell64 hg hx
  have c2 := cell64 hg hy
  have f1 := frozen_of_row w g j _ _ hg
  have h63 : h < 64 := by omega
  clear ha hb hv hu eu hz hg hx hy bz bu' bv hq hk bx bu hlow
  go_enter Tryd.func92, Tryd.ntmps92
  go_wp2
  go_quiet (fail)
  go_wp2
  have c1' : (w.drewN nq).cell? ⟨g, j, none⟩ = some (.int .u64 (x : Int)) := c1
  go_region
  have HG2 : Hid (((w.drewN (nq + 1)).setCell ⟨g, j, none⟩ (.int .u64 (a : Int))).heap[g]? = some (row64 t (l.set j a))) := set64 (w := w.drewN (nq + 1)) HG.out
  have HB2 : Hid (Below g w ((w.drewN (nq + 1)).setCell ⟨g, j, none⟩ (.int .u64 (a : Int)))) := (below_dn g w (nq + 1)).setCell (Nat.le_refl _) _
  generalize (w.drewN (nq + 1)).setCell ⟨g, j, none⟩ (.int .u64 (a : Int)) = W at *
  have c2' := cell64 HG2.out (j := k) (x := y) (by rw [List.getElem?_set_ne hjk]; exact HY.out)
  have f2 := frozen_of_row W g k _ _ HG2.out
  clear c1 c2 c1' f1
  go_wp2
  go_region
  go_wp2
  go_end0
  exact ⟨rfl, set64 (w := W.drewN 1) HG2.out, (HB2.out.drew).setCell (Nat.le_refl _) _⟩

theorem i64_and_nat {a b : Nat} (ha : a < 64) (hb : b < 64) : bits .and .i64 (a : Int) (b : Int) = ((a &&& b : Nat) : Int) := by
  have : ∀ a : Nat, a < 64 → ∀ b : Nat, b < 64 → bits .and .i64 (a : Int) (b : Int) = ((a &&& b : Nat) : Int) := by decide +kernel
  exact this a ha b hb

set_option maxHeartbeats 2000000 in
theorem turn_any (t : TypeId) (w : World) (g : Nat) (f : Nat → Nat) (hg : w.heap[g]? = some (row64 t (sq f))) (hf : ∀ i, i < 64 → f i < 18446744073709551616) :
    Calls Tryd.prog 69 #[.pointer (some ⟨g, 0, none⟩)] w fun e w' => e = .returned (.tuple #[]) ∧ w'.heap[g]? = some (row64 t (sq (turned f))) ∧ Below g w w' := by
  have HG := hide1 hg
  clear hg
  go_enter Tryd.func69, Tryd.ntmps69
  go_wp2
  go_loopw [2, 3] (fun lo ha wr => ∃ r : Nat, r ≤ 6 ∧ lo = .int .u64 (lw r : Nat) ∧ ha = .int .i64 (hv r : Nat) ∧ wr.heap[g]? = some (row64 t (sq (stg f r))) ∧ Below g w wr) (fun _ ha _ => (intOf ha).toNat)
  case atStart => exact ⟨0, by omega, rfl, rfl, HG.out, Below.refl _ _⟩
  case round =>
    obtain ⟨r, hr, rfl, rfl, hrow, hbe⟩ := hrel
    by_cases hlt : r < 6
    · have hgd := good_at r hlt
      have hps := good.pos hgd
      have HF := hide1 (stg_lt hf r hr)
      have HS : Shy (stg f (r + 1) = lv (hv r) (lw (r + 1)) (stg f r)) := ⟨rfl⟩
      have q1 : IntKind.u64.wrap ((lw r : Int) * 2 ^ hv r) = ((lw r * 2 ^ hv r % 18446744073709551616 : Nat) : Int) := shl_wrap _ _
      have q2 : (lw r : Int) * 2 ^ hv r % 18446744073709551616 = ((lw r * 2 ^ hv r % 18446744073709551616 : Nat) : Int) := shl_cast _ _
      have q3 : bits .xor .u64 (lw r : Int) ((lw r * 2 ^ hv r % 18446744073709551616 : Nat) : Int) = (lw (r + 1) : Int) := by
        rw [u64_xor_nat _ _ (lw_lt r (by omega)) (Nat.mod_lt _ (by omega)), lw_next r hlt]
      have q4 : (hv (r + 1) : Int) = (hv r : Int) / 2 := by rw [← hv_next r hlt]; omega
      have LW : Shy (0 < hv r) := ⟨hps.1⟩
      have H2 : Shy (hv (r + 1) < hv r) := ⟨by rw [← hv_next r hlt]; omega⟩
      obtain ⟨F, hF⟩ : ∃ F, F = stg f r := ⟨_, rfl⟩
      rw [← hF] at HF HS hrow
      obtain ⟨h, hh⟩ : ∃ h, h = hv r := ⟨_, rfl⟩
      obtain ⟨lo, hlo⟩ : ∃ lo, lo = lw r := ⟨_, rfl⟩
      obtain ⟨lo', hlo'⟩ : ∃ lo', lo' = lw (r + 1) := ⟨_, rfl⟩
      obtain ⟨h', hh'⟩ : ∃ h', h' = hv (r + 1) := ⟨_, rfl⟩
      rw [← hh, ← hlo] at q1 q2 q3
      rw [← hlo'] at q3 HS hgd hps
      rw [← hh] at hgd hps HS q4 LW H2 ⊢
      rw [← hh'] at q4 H2
      rw [← hlo]
      obtain ⟨z, hz⟩ : ∃ z, z = lo * 2 ^ h % 18446744073709551616 := ⟨_, rfl⟩
      rw [← hz] at q1 q2 q3
      have HLO := hide1 hlo'
      have HHH := hide1 hh'
      have hpos : (0 : Int) < (h : Int) := by omega
      have hpos2 : 0 < h := by omega
      have h64 : h < 64 := hps.2.1
      have q5 : (h : Int) / 2 = (h' : Int) := q4.symm
      have q6 : IntKind.i64.wrap ((h : Int) / 2) = (h' : Int) := by rw [q5, IntKind.wrap_i64]; have := H2.out; omega
      have HGD : Shy (good h lo' = true) := ⟨hgd⟩
      have HPS : Shy (0 < h ∧ h < 64 ∧ lo' < 18446744073709551616) := ⟨hps⟩
      have HR := hide1 hrow
      have HB := hide1 hbe
      clear hz hlo hh hlo' hh' hF hgd hps hrow hbe q4
      go_wp2
      clear q1 q2 q3
      obtain ⟨Z, hZ⟩ : ∃ Z, Z = wr := ⟨_, rfl⟩
      subst hZ
      go_loopw [14] (fun i wr => ∃ J : Nat, J ≤ 64 ∧ i = .int .i64 J ∧ wr.heap[g]? = some (row64 t (sq (lvTo h lo' F J))) ∧ Below g w wr) (fun i _ => 64 - (intOf i).toNat)
      case atStart =>
        refine ⟨0, by omega, rfl, ?_, HB.out⟩
        rw [sq_congr (fun i _ => lvTo_zero h lo' F i)]
        exact HR.out
      case round =>
        obtain ⟨J, hJ, rfl, hrow, hbe⟩ := hrel
        clear HR HB
        by_cases hlt2 : J < 64
        · have q7 : bits .and .i64 (J : Int) (h : Int) = ((J &&& h : Nat) : Int) := i64_and_nat hlt2 h64
          have HR := hide1 hrow
          have HB := hide1 hbe
          clear hrow hbe
          by_cases hz : J &&& h = 0
          · rw [hz] at q7
            have k := cross_step HGD.out F hz hlt2
            have up := good.up HGD.out hlt2 hz
            have HC := hide1 (cross_any t wr g J h lo' (F J) (F (J + h)) _ HR.out (by rw [sq_get hlt2, k.1]) (by rw [sq_get up.2, k.2.1]) up.2 HPS.out.1 HPS.out.2.2 (HF.out J hlt2) (HF.out _ up.2))
            rw [← k.2.2] at HC
            clear k up hz
            go_wp2_with (go_at_call 92; refine HC.out.mono ?_; rintro e w1 ⟨rfl, hr1, hb1⟩)
            go_roundw
            case rel => exact ⟨J + 1, by omega, by go_num, hr1, HB.out.trans hb1⟩
            case measure => simp [intOf]; omega
          · have q8 : ((((J &&& h : Nat) : Int)) == 0) = false := by rw [beq_eq_false_iff_ne]; omega
            have HZ : Shy (¬ J &&& h = 0) := ⟨hz⟩
            obtain ⟨y, hy⟩ : ∃ y, y = J &&& h := ⟨_, rfl⟩
            rw [← hy] at q7 q8
            clear hz hy
            go_wp2
            go_roundw
            case rel =>
              refine ⟨J + 1, by omega, by go_num, ?_, HB.out⟩
              rw [sq_congr (fun i hi => lvTo_pass HGD.out F HZ.out hi)]
              exact HR.out
            case measure => simp [intOf]; omega
        · obtain rfl : J = 64 := by omega
          have HR := hide1 hrow
          have HB := hide1 hbe
          clear hrow hbe
          go_wp2
          go_roundw
          case rel =>
            refine ⟨r + 1, by omega, by rw [HLO.out], by rw [HHH.out], ?_, HB.out⟩
            rw [HS.out, ← sq_congr (fun i hi => lvTo_all (h := h) (low := lo') (f := F) hi)]
            exact HR.out
          case measure => simp [intOf]; have := H2.out; omega
    · obtain rfl : r = 6 := by omega
      have HR := hide1 hrow
      have HB := hide1 hbe
      clear hrow hbe
      go_wp2
      go_end0
      exact ⟨rfl, HR.out, HB.out⟩
end Go.Proofs.YtlkkninnfiaedaaDoor.T
