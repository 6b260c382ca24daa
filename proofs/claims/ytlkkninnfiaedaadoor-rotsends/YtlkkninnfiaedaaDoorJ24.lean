/- The document's Rounds: the constants, reckoned. A block's words: word, gather; a word's bytes: bytesOf. A block's words: gather. -/
import Derived.Test.YtlkkninnfiaedaaDoorJ23
import Derived.Deep.AppendLies
import Derived.Test.YtlkkninnfiaedaaDoorJ20
import Derived.Laws.CopyOwn
import Derived.Deep.RegionHeld3
import Derived.Deep.Cut
import Derived.Deep.CutBlock
import Derived.Deep.DeepCutAuto
import Derived.Lib.EndianBits
import Derived.Test.YtlkkninnfiaedaaDoorJ22
namespace Go.Proofs.YtlkkninnfiaedaaDoor.Sh
open Go.RowKit
set_option maxRecDepth 100000
attribute [local go_sem] not_any

theorem info_of {P : Program} {t : TypeId} {z : Value} {s b : Nat} (h : (P.info? t).map (fun i => (i.zero, i.size, i.bytes)) = some (some z, s, b)) : ∃ i, P.info? t = some i ∧ i.zero = some z ∧ i.size = s ∧ i.bytes = b := by
  cases hq : P.info? t with
  | none => simp [hq] at h
  | some i =>
    simp [hq] at h
    exact ⟨i, rfl, h.1, h.2.1, h.2.2⟩
theorem info30 : (Tryd.prog.info? 85).map (fun i => (i.zero, i.size, i.bytes)) = some (some (.int .u32 0), 1, 4) := by kernel_rfl

/- a list of words that the call itself made -/
def Own32 (base : Nat) (w : World) (v : Value) (l : List Nat) : Prop := w.ownsRow base 85 1 v l.length (u32s l)

theorem own_val {base : Nat} {w : World} {v : Value} {l : List Nat} (h : Own32 base w v l) : ∃ a c, v = .slice a l.length c := by
  rcases h.2 with ⟨rfl, h0⟩ | ⟨g, cap, cur, rfl, _⟩
  · exact ⟨none, 0, by rw [h0]⟩
  · exact ⟨_, _, rfl⟩

theorem own_below {base : Nat} {w w' : World} {v : Value} {l : List Nat} (h : Own32 base w v l) (hb : Below w.heap.size w w') : Own32 base w' v l := by
  obtain ⟨h1, h2⟩ := h
  refine ⟨h1, ?_⟩
  rcases h2 with h2 | ⟨g, cap, cur, hv, hg, hh, r⟩
  · exact .inl h2
  · exact .inr ⟨g, cap, cur, hv, hg, (hb.block _ (lt_heap hh)).trans hh, r⟩

theorem rootTo_le (n : Nat) : ∀ j, j ≤ 36 → rootTo n j + 2 ^ (36 - j) ≤ 2 ^ 36
  | 0, _ => by simp [rootTo]
  | j + 1, h => by
    have := rootTo_le n j (by omega)
    rw [show 36 - j = (36 - (j + 1)) + 1 by omega, Nat.pow_succ] at this
    have e : 35 - j = 36 - (j + 1) := by omega
    rw [rootTo]
    split
    · rw [e]; omega
    · omega

theorem outP_no {p : Nat} (h : primeB p = false) : outP (p + 1) = outP p := by
  simp [outP, primesTo, List.range_succ, h]
theorem outP_yes {p : Nat} (h : primeB p = true) : outP (p + 1) = outP p ++ [rootP p] := by
  simp [outP, primesTo, List.range_succ, h]
theorem outP_two : outP 2 = [] := by decide +kernel
theorem outP_small {p : Nat} (h : p ≤ 311) : (outP p).length ≤ 63 := by
  rw [outP, List.length_map, ← primes311]
  exact ((List.range_sublist.2 h).filter _).length_le
theorem outP_end : (outP 312).length = 64 := by rw [outP, List.length_map, primes312]

def RPost (w : World) (e : Ending) (w' : World) : Prop := ∃ v, e = .returned v ∧ Own32 w.heap.size w' v ROOTS ∧ Below w.heap.size w w'

set_option maxHeartbeats 2000000 in
theorem rounds_any (w : World) :
    Calls Tryd.prog 77 #[] w (RPost w) := by
  obtain ⟨i0, hi, hz0, hz1, hz2⟩ := info_of info30
  go_enter Tryd.func77, Tryd.ntmps77
  go_wp2
  go_loopw [1, 2] (fun v1 v2 wr => ∃ p : Nat, 2 ≤ p ∧ p ≤ 312 ∧ v2 = .int .u64 p ∧ Own32 w.heap.size wr v1 (outP p) ∧ Below w.heap.size w wr) (fun _ v2 _ => 312 - (intOf v2).toNat)
  case atStart => exact ⟨2, by omega, by omega, rfl, by rw [outP_two]; exact World.ownsRow_nil _ _ _ _, Below.refl _ _⟩
  case round =>
    obtain ⟨p, hp1, hp2, rfl, ho, hb⟩ := hrel
    obtain ⟨a, c, rfl⟩ := own_val ho
    obtain ⟨V, hV⟩ : ∃ V, V = wr := ⟨_, rfl⟩
    subst hV
    have HO := hide1 ho
    have HB := hide1 hb
    clear ho hb
    by_cases hlt : p ≤ 311
    · have hk := outP_small hlt
      obtain ⟨k, hkk⟩ : ∃ k, k = (outP p).length := ⟨_, rfl⟩
      rw [← hkk] at hk
      have HK : Shy (k = (outP p).length) := ⟨hkk⟩
      rw [← hkk] at HO
      rw [← hkk]
      have hP := hide1 (prime_any p V (by omega))
      clear hkk
      cases hpr : primeB p with
      | false =>
        rw [hpr] at hP
        have HN : Shy (outP (p + 1) = outP p) := ⟨outP_no hpr⟩
        clear hpr
        go_wp2_with (first | (go_at_call 97; refine hP.out.mono ?_; rintro e w' ⟨rfl, hw'⟩; cases hw') | fail)
        go_roundw
        case rel => exact ⟨p + 1, by omega, by omega, by go_num, by rw [HN.out]; exact HO.out, HB.out⟩
        case measure => simp [intOf]; omega
      | true =>
        rw [hpr] at hP
        have HN : Shy (outP (p + 1) = outP p ++ [rootP p]) := ⟨outP_yes hpr⟩
        clear hpr
        go_wp2_with (first | (go_at_call 97; refine hP.out.mono ?_; rintro e w' ⟨rfl, hw'⟩; cases hw') | fail)
        go_loopw [3, 4] (fun v3 v4 wx => ∃ j : Nat, j ≤ 36 ∧ v4 = .int .i64 (35 - (j : Int)) ∧ v3 = .int .u64 (rootTo p j : Nat) ∧ Below V.heap.size V wx) (fun _ v4 _ => (intOf v4 + 1).toNat)
        case atStart => exact ⟨0, Nat.zero_le _, rfl, rfl, Below.refl _ _⟩
        case round =>
          obtain ⟨j, hj, rfl, rfl, hbx⟩ := hrel
          have HBX := hide1 hbx
          clear hbx
          by_cases hj36 : j < 36
          · obtain ⟨m, hm⟩ : ∃ m, m = 35 - j := ⟨_, rfl⟩
            have em : 35 - (j : Int) = (m : Int) := by omega
            rw [em]
            have hr := rootTo_le p j hj
            have hm36 : m ≤ 35 := by omega
            have h2m : 2 ^ m ≤ 2 ^ 35 := Nat.pow_le_pow_right (by omega) hm36
            have HN : Shy (rootTo p (j + 1) = if cubeP (rootTo p j + 2 ^ m) p then rootTo p j + 2 ^ m else rootTo p j) := ⟨by rw [rootTo, hm]⟩
            obtain ⟨x, hx⟩ : ∃ x, x = rootTo p j := ⟨_, rfl⟩
            rw [← hx] at hr
            have HN' : Shy (rootTo p (j + 1) = if cubeP (x + 2 ^ m) p then x + 2 ^ m else x) := ⟨by rw [hx]; exact HN.out⟩
            rw [← hx]
            have hx36 : x ≤ 68719476736 := Nat.le_trans (Nat.le_add_right _ _) hr
            obtain ⟨t, ht⟩ : ∃ t, t = 2 ^ m := ⟨_, rfl⟩
            have ht35 : t ≤ 34359738368 := by rw [ht]; exact h2m
            have et : (2 : Int) ^ m = (t : Int) := by rw [ht, Int.natCast_pow]; rfl
            obtain ⟨y, hy⟩ : ∃ y, y = x + t := ⟨_, rfl⟩
            have ey : (x : Int) + (t : Int) = (y : Int) := by omega
            have HN2 : Shy (rootTo p (j + 1) = if cubeP y p then y else x) := ⟨by rw [hy, ht]; exact HN'.out⟩
            have hC := fun w => hide1 (cube_any y p w (by omega) (by omega))
            have Hm := hide1 hm
            have hyb : (y : Int) < 1099511627776 := by omega
            clear hm hr h2m HN HN' hx ht hy em
            cases hcb : cubeP y p with
            | true =>
              rw [hcb] at hC
              have HN3 : Shy (rootTo p (j + 1) = y) := ⟨by rw [HN2.out, hcb]; rfl⟩
              clear hcb HN2
              go_wp2_with fail
              refine (hC _).out.mono ?_
              rintro e w5 ⟨rfl, hb5⟩
              have B5 : Hid (Below V.heap.size V w5) := HBX.out.trans (hb5.mono HBX.out.size)
              clear hb5 hC
              go_wp2
              go_roundw
              case rel => exact ⟨j + 1, by omega, by have := Hm.out; congr 1; omega, by rw [HN3.out], B5.out⟩
              case measure => simp [intOf]
            | false =>
              rw [hcb] at hC
              have HN3 : Shy (rootTo p (j + 1) = x) := ⟨by rw [HN2.out, hcb]; rfl⟩
              clear hcb HN2
              go_wp2_with fail
              refine (hC _).out.mono ?_
              rintro e w5 ⟨rfl, hb5⟩
              have B5 : Hid (Below V.heap.size V w5) := HBX.out.trans (hb5.mono HBX.out.size)
              clear hb5 hC
              go_wp2
              go_roundw
              case rel => exact ⟨j + 1, by omega, by have := Hm.out; congr 1; omega, by rw [HN3.out], B5.out⟩
              case measure => simp [intOf]
          · have : j = 36 := by omega
            subst this
            have e36 : 35 - ((36 : Nat) : Int) = -1 := rfl
            rw [e36]
            have HR : Shy (rootP p = rootTo p 36 % 4294967296) := ⟨rfl⟩
            obtain ⟨x, hx⟩ : ∃ x, x = rootTo p 36 := ⟨_, rfl⟩
            have HR' : Shy (rootP p = x % 4294967296) := ⟨by rw [hx]; exact HR.out⟩
            rw [← hx]
            obtain ⟨z, hz⟩ : ∃ z, z = x % 4294967296 := ⟨_, rfl⟩
            have ez : (x : Int) % 4294967296 = (z : Int) := by omega
            have ez' : IntKind.u32.wrap (x : Int) = (z : Int) := by rw [wrap32, hz]
            have HZ : Shy (rootP p = z) := ⟨by rw [hz]; exact HR'.out⟩
            have hown : Own32 w.heap.size wr (.slice a k c) (outP p) := by
              have := own_below HO.out HBX.out
              exact this
            have hbw : Below w.heap.size w wr := HB.out.trans (HBX.out.mono HB.out.size)
            have HOW := hide1 hown
            have HBW := hide1 hbw
            clear HR HR' hx hz hown hbw e36
            have hk63 : k + 1 ≤ 64 := by omega
            go_wp2_with (first
              | (at_builtin; refine wpList_append_lies _ rfl _ _ 140 rfl w.heap.size 85 i0 (.int .u32 0) 1 4 Tryd.underlying140 hi hz0 hz1 hz2 rfl (by decide) (.slice a k c) k (u32s (outP p)) rfl (by have := HOW.out; unfold Own32 at this; rw [← HK.out] at this; exact this.alloc _) ⟨wr.heap.size, 0, none⟩ 1 1 [.int .u32 (z : Int)] rfl rfl (cell_one_new _ _ _) (fun x hx => by simp at hx; subst hx; rfl) (by omega) (by unfold maxLen; omega) (by omega) (by have := HBW.out.size; simp; omega) _ rfl ?_; intro g6 cap6 w6 ro6 gr6 wh6 lt6)
              | fail)
            go_roundw
            case rel =>
              refine ⟨p + 1, by omega, by omega, by go_num, ?_, ?_⟩
              · rw [HN.out, HZ.out]
                unfold Own32
                rw [List.length_append, ← HK.out]
                have e : u32s (outP p ++ [z]) = u32s (outP p) ++ [Value.int .u32 (z : Int)] := by simp [u32s]
                rw [e]
                exact ro6
              · exact (HBW.out.alloc HBW.out.size _).grown gr6 (by have := HBW.out.size; simp; omega) (fun k hk => (HOW.out.lt k hk).1)
            case measure => simp [intOf]; omega
    · have : p = 312 := by omega
      subst this
      have HE : Shy ((outP 312).length = 64) := ⟨outP_end⟩
      have HQ : Shy (outP 312 = ROOTS) := ⟨out312⟩
      obtain ⟨k, hkk⟩ : ∃ k, k = (outP 312).length := ⟨_, rfl⟩
      rw [← hkk] at HO
      rw [← hkk]
      have hk64 : k = 64 := by rw [hkk]; exact HE.out
      rw [HQ.out] at HO
      clear hkk HE HQ
      subst hk64
      go_wp2
      go_ret
      exact ⟨_, rfl, HO.out, HB.out⟩
end Go.Proofs.YtlkkninnfiaedaaDoor.Sh

namespace Go.Proofs.YtlkkninnfiaedaaDoor.Sh
open Go.RowKit
set_option maxRecDepth 100000
attribute [local go_sem] not_any

/- four bytes as a word, the highest first -/
def be (a b c d : Nat) : Nat := a * 16777216 + b * 65536 + c * 256 + d
def wordAt (l : List Nat) (i : Nat) : Nat := be (at0 l i) (at0 l (i + 1)) (at0 l (i + 2)) (at0 l (i + 3))
def wordsOf (l : List Nat) : List Nat := (List.range 16).map (fun i => wordAt l (4 * i))

theorem be_lt {a b c d : Nat} (ha : a < 256) (hb : b < 256) (hc : c < 256) (hd : d < 256) : be a b c d < 4294967296 := by unfold be; omega
theorem wordsOf_length (l : List Nat) : (wordsOf l).length = 16 := by simp [wordsOf]
theorem wordsOf_lt {l : List Nat} (h : Lt 256 l) : Lt 4294967296 (wordsOf l) := by
  intro x hx
  simp only [wordsOf, List.mem_map] at hx
  obtain ⟨i, _, rfl⟩ := hx
  exact be_lt (h.at (by omega) _) (h.at (by omega) _) (h.at (by omega) _) (h.at (by omega) _)

/- bytes in memory, to be read -/
structure By (w : World) (m : Nat) (a : Option Addr) (l : List Nat) : Prop where
  len : l.length = m
  at' : ∀ j, j < m → ∃ g o, a = some ⟨g, o, none⟩ ∧ w.cell? ⟨g, o + j, none⟩ = some (.int .u8 (at0 l j : Nat))

theorem or4 {x0 x1 x2 x3 : Nat} (h0 : x0 < 256) (h1 : x1 < 256) (h2 : x2 < 256) (h3 : x3 < 256) :
    bits .or .u32 (bits .or .u32 (bits .or .u32 (bits .or .u32 0 (x3 : Int)) ((x2 : Int) * 256)) ((x1 : Int) * 65536)) ((x0 : Int) * 16777216) = (be x0 x1 x2 x3 : Nat) := by
  have e : bits .or .u32 0 (x3 : Int) = (x3 : Int) := by
    have := u32_or_nat 0 x3 (by omega) (by omega)
    rw [Nat.zero_or] at this
    exact this
  rw [e, u32_or8 (x3 : Int) ((x2 : Int) * 256) (by omega) (by omega) (by omega) (by omega) (by omega), u32_or16 ((x3 : Int) + (x2 : Int) * 256) ((x1 : Int) * 65536) (by omega) (by omega) (by omega) (by omega) (by omega), u32_or24 ((x3 : Int) + (x2 : Int) * 256 + (x1 : Int) * 65536) ((x0 : Int) * 16777216) (by omega) (by omega) (by omega) (by omega) (by omega)]
  unfold be
  omega
theorem or3 {x0 x1 x2 : Nat} (h0 : x0 < 256) (h1 : x1 < 256) (h2 : x2 < 256) :
    bits .or .u32 (bits .or .u32 (bits .or .u32 0 ((x2 : Int) * 256)) ((x1 : Int) * 65536)) ((x0 : Int) * 16777216) = (be x0 x1 x2 0 : Nat) := by
  rw [u32_or8 0 ((x2 : Int) * 256) (by omega) (by omega) (by omega) (by omega) (by omega), u32_or16 (0 + (x2 : Int) * 256) ((x1 : Int) * 65536) (by omega) (by omega) (by omega) (by omega) (by omega), u32_or24 (0 + (x2 : Int) * 256 + (x1 : Int) * 65536) ((x0 : Int) * 16777216) (by omega) (by omega) (by omega) (by omega) (by omega)]
  unfold be
  omega
theorem or2 {x0 x1 : Nat} (h0 : x0 < 256) (h1 : x1 < 256) :
    bits .or .u32 (bits .or .u32 0 ((x1 : Int) * 65536)) ((x0 : Int) * 16777216) = (be x0 x1 0 0 : Nat) := by
  rw [u32_or16 0 ((x1 : Int) * 65536) (by omega) (by omega) (by omega) (by omega) (by omega), u32_or24 (0 + (x1 : Int) * 65536) ((x0 : Int) * 16777216) (by omega) (by omega) (by omega) (by omega) (by omega)]
  unfold be
  omega
theorem or1 {x0 : Nat} (h0 : x0 < 256) : bits .or .u32 0 ((x0 : Int) * 16777216) = (be x0 0 0 0 : Nat) := by
  rw [u32_or24 _ _ (by omega) (by omega) (by omega) (by omega) (by omega)]
  unfold be
  omega

theorem By.three {w : World} {m : Nat} {a : Option Addr} {l : List Nat} (h : By w m a l) (h1 : 1 ≤ m) : ∃ g o, a = some ⟨g, o, none⟩ ∧ w.cell? ⟨g, o, none⟩ = some (.int .u8 (at0 l 0 : Nat)) ∧ ∀ j, j < m → w.cell? ⟨g, o + j, none⟩ = some (.int .u8 (at0 l j : Nat)) := by
  obtain ⟨g, o, rfl, c⟩ := h.at' 0 (by omega)
  refine ⟨g, o, rfl, c, fun j hj => ?_⟩
  obtain ⟨g', o', e, c'⟩ := h.at' j hj
  cases e
  exact c'

set_option maxHeartbeats 1000000 in
theorem word_any (l : List Nat) (m c : Nat) (a : Option Addr) (w : World) (hm : m ≤ 64) (h : By w m a l) (hl : Lt 256 l) :
    Calls Tryd.prog 94 #[.slice a m c] w fun e w' => e = .returned (.int .u32 (wordAt l 0 : Nat)) ∧ w' = w := by
  have b0 := hl.at (by omega) 0
  have b1 := hl.at (by omega) 1
  have b2 := hl.at (by omega) 2
  have b3 := hl.at (by omega) 3
  have z : ∀ i, m ≤ i → at0 l i = 0 := fun i hi => at0_none (by rw [h.len]; exact hi)
  have Hw : Hid (wordAt l 0 = be (at0 l 0) (at0 l 1) (at0 l 2) (at0 l 3)) := rfl
  by_cases h0 : m = 0
  · subst h0
    rw [z 0 (by omega), z 1 (by omega), z 2 (by omega), z 3 (by omega)] at Hw
    rw [Hw.out]
    clear Hw z b0 b1 b2 b3 h hl
    go_enter Tryd.func94, Tryd.ntmps94
    go_wp2
    go_ret
    exact ⟨rfl, rfl⟩
  obtain ⟨g, o, rfl, c0, cs⟩ := h.three (by omega)
  by_cases h1 : m = 1
  · subst h1
    rw [z 1 (by omega), z 2 (by omega), z 3 (by omega)] at Hw
    generalize at0 l 0 = x0 at *
    rw [Hw.out]
    clear Hw z b1 b2 b3 h hl cs
    go_enter Tryd.func94, Tryd.ntmps94
    go_wp2
    go_ret
    exact ⟨ret_int (or1 b0), rfl⟩
  have c1 := cs 1 (by omega)
  by_cases h2 : m = 2
  · subst h2
    rw [z 2 (by omega), z 3 (by omega)] at Hw
    generalize at0 l 0 = x0 at *
    generalize at0 l 1 = x1 at *
    rw [Hw.out]
    clear Hw z b2 b3 h hl cs
    go_enter Tryd.func94, Tryd.ntmps94
    go_wp2
    go_ret
    exact ⟨ret_int (or2 b0 b1), rfl⟩
  have c2 := cs 2 (by omega)
  by_cases h3 : m = 3
  · subst h3
    rw [z 3 (by omega)] at Hw
    generalize at0 l 0 = x0 at *
    generalize at0 l 1 = x1 at *
    generalize at0 l 2 = x2 at *
    rw [Hw.out]
    clear Hw z b3 h hl cs
    go_enter Tryd.func94, Tryd.ntmps94
    go_wp2
    go_ret
    exact ⟨ret_int (or3 b0 b1 b2), rfl⟩
  have c3 := cs 3 (by omega)
  by_cases h4 : m = 4
  · subst h4
    generalize at0 l 0 = x0 at *
    generalize at0 l 1 = x1 at *
    generalize at0 l 2 = x2 at *
    generalize at0 l 3 = x3 at *
    rw [Hw.out]
    clear Hw z h hl cs
    go_enter Tryd.func94, Tryd.ntmps94
    go_wp2
    go_ret
    exact ⟨ret_int (or4 b0 b1 b2 b3), rfl⟩
  have h5 : ¬ (m : Int) ≤ 4 := by omega
  generalize at0 l 0 = x0 at *
  generalize at0 l 1 = x1 at *
  generalize at0 l 2 = x2 at *
  generalize at0 l 3 = x3 at *
  rw [Hw.out]
  clear Hw z h hl cs
  go_enter Tryd.func94, Tryd.ntmps94
  go_wp2
  go_ret
  exact ⟨ret_int (or4 b0 b1 b2 b3), rfl⟩

def bytesP (x : Nat) : List Nat := [x / 16777216 % 256, x / 65536 % 256, x / 256 % 256, x % 256]

theorem bytes_lit {x : Nat} (hx : x < 4294967296) : #[Value.int IntKind.u8 ((x : Int) / 16777216), Value.int IntKind.u8 ((x : Int) / 65536 % 256), Value.int IntKind.u8 ((x : Int) / 256 % 256), Value.int IntKind.u8 ((x : Int) % 256)] = (u8s (bytesP x)).toArray := by
  have e : (x : Int) / 16777216 = ((x / 16777216 % 256 : Nat) : Int) := by omega
  rw [e]
  rfl

theorem bytes_any (x : Nat) (w : World) (hx : x < 4294967296) :
    Calls Tryd.prog 71 #[.int .u32 (x : Int)] w fun e w' => e = .returned (arr8 (bytesP x)) ∧ Below w.heap.size w w' := by
  go_enter Tryd.func71, Tryd.ntmps71
  go_wp2
  rw [bytes_lit hx]
  refine ret_row Tryd.results71 w.heap.size 133 (u8s (bytesP x)).toArray rfl (heap_alloc_new _ _) Tryd.underlying133 (by kernel_rfl) rfl ⟨rfl, ?_⟩
  exact (Below.refl _ _).alloc (Nat.le_refl _) _

end Go.Proofs.YtlkkninnfiaedaaDoor.Sh

namespace Go.Proofs.YtlkkninnfiaedaaDoor.Sh
open Go.RowKit
set_option maxRecDepth 100000
attribute [local go_sem] not_any

def cutAt (a : Option Addr) (c q : Nat) : Option Addr := if c = q then a else a.map (·.add (q * 1))

theorem run_cutl (w : World) (a : Option Addr) (n c q : Nat) (h1 : q ≤ n) :
    (Instr.slice 80 (.slice a n c) (some (.int .i64 q)) none none).run Tryd.prog w = .ok (.slice (cutAt a c q) (n - q) (c - q)) w := by
  have hs : (sizeOf 5).run Tryd.prog w = .ok 1 w := by kernel_rfl
  have a1 : (q : Int) ≤ (n : Int) := by omega
  simp [Instr.slice, run_underlying Tryd.underlying80, Instr.sliceBounds, run_sliceBound, a1, cutAt]

theorem by_cut {w : World} {n c q : Nat} {a : Option Addr} {l : List Nat} (h : By w n a l) (h1 : q ≤ n) (h3 : n ≤ c) : By w (n - q) (cutAt a c q) (l.drop q) := by
  refine ⟨by simp [h.len], fun j hj => ?_⟩
  obtain ⟨g, o, rfl, hc⟩ := h.at' (q + j) (by omega)
  refine ⟨g, o + q, ?_, ?_⟩
  · unfold cutAt
    rw [if_neg (by omega), Nat.mul_one]
    simp [Addr.add_lit]
  · rw [at0_drop, Nat.add_assoc]
    exact hc

theorem By.below {B : Nat} {w w' : World} {m : Nat} {a : Option Addr} {l : List Nat} (h : By w m a l) (hB : Below B w w') (hs : w.heap.size ≤ B) : By w' m a l :=
  ⟨h.len, fun j hj => by
    obtain ⟨g, o, h1, h2⟩ := h.at' j hj
    exact ⟨g, o, h1, (hB.cell (p := ⟨g, o + j, none⟩) (by have := lt_cell h2; simp at this ⊢; omega)).trans h2⟩⟩

theorem wordAt_drop (l : List Nat) (q : Nat) : wordAt (l.drop q) 0 = wordAt l q := by
  simp [wordAt, at0_drop]
theorem drop_min (l : List Nat) (m k : Nat) (h : l.length = m) : wordAt (l.drop (min (4 * k) m)) 0 = wordAt l (4 * k) := by
  rw [wordAt_drop]
  by_cases h4 : 4 * k ≤ m
  · rw [Nat.min_eq_left h4]
  · rw [Nat.min_eq_right (by omega)]
    unfold wordAt
    rw [at0_none (by omega), at0_none (by omega), at0_none (by omega), at0_none (by omega), at0_none (by omega), at0_none (by omega), at0_none (by omega), at0_none (by omega)]

set_option maxHeartbeats 2000000 in
theorem gather_any (l : List Nat) (m c : Nat) (a : Option Addr) (w : World) (hm : m ≤ 64) (hc : m ≤ c) (h : By w m a l) (hl : Lt 256 l) :
    Calls Tryd.prog 74 #[.slice a m c] w fun e w' => e = .returned (arr32 (wordsOf l)) ∧ Below w.heap.size w w' := by
  have H := hide1 h
  have HL := hide1 hl
  have Hc := hide1 hc
  clear h hl hc
  go_enter Tryd.func74, Tryd.ntmps74
  go_upto_block 0 with (fail)
  generalize hW : World.alloc (World.alloc w _) _ = W
  have h1 : W.heap[w.heap.size]? = some (row32 136 (zeros 16)) := by rw [← hW]; exact heap_alloc2_old _ _ _
  have h2 : W.heap[w.heap.size + 1]? = some (row32 136 (zeros 16)) := by rw [← hW]; exact heap_alloc2_new _ _ _
  have hb : Below w.heap.size w W := by rw [← hW]; exact ((Below.refl _ _).alloc (Nat.le_refl _) _).alloc (by simp) _
  have H1 := hide1 h1
  have H2 := hide1 h2
  have HB := hide1 hb
  clear hW h1 h2 hb
  go_wp2
  go_loopw [5] (fun i wr => ∃ k : Nat, k ≤ 16 ∧ i = .int .i64 k ∧ wr.heap[w.heap.size + 1]? = some (row32 136 (told (fun i => wordAt l (4 * i)) (zeros 16) k)) ∧ Below (w.heap.size + 1) W wr) (fun i _ => 16 - (intOf i).toNat)
  case atStart => exact ⟨0, Nat.zero_le _, rfl, by rw [told_zero]; exact H2.out, Below.refl _ _⟩
  case round =>
    obtain ⟨k, hk, rfl, hrow, hbe⟩ := hrel
    clear H2
    by_cases hlt : k < 16
    · have f1 := frozen_of_row wr (w.heap.size + 1) k _ _ hrow
      have c1 := cell32 hrow (j := k) (by rw [told_length, zeros_length]; exact hlt)
      have HT : Hid (told (fun i => wordAt l (4 * i)) (zeros 16) (k + 1) = (told (fun i => wordAt l (4 * i)) (zeros 16) k).set k (wordAt l (4 * k))) := told_succ _ _ (by rw [zeros_length]; exact hlt)
      obtain ⟨p, hp⟩ : ∃ p, p = 4 * k := ⟨_, rfl⟩
      have e4 : 4 * (k : Int) = (p : Int) := by omega
      have hwr := (H.out.below HB.out (Nat.le_refl _)).below hbe
      have hB2 : Below w.heap.size w wr := HB.out.trans (hbe.mono (by omega))
      have HW : Hid (∀ w', By w' (m - min p m) (cutAt a c (min p m)) (l.drop (min p m)) → Calls Tryd.prog 94 #[.slice (cutAt a c (min p m)) (m - min p m) (c - min p m)] w' fun e w'' => e = .returned (.int .u32 (wordAt l (4 * k) : Nat)) ∧ w'' = w') := by
        show ∀ w', _
        intro w' hw'
        have := word_any (l.drop (min p m)) (m - min p m) (c - min p m) (cutAt a c (min p m)) w' (by omega) hw' (HL.out.drop _)
        rw [hp, drop_min l m k H.out.len] at this
        rw [hp]
        exact this
      have HBy : Hid (By wr (m - min p m) (cutAt a c (min p m)) (l.drop (min p m))) := by
        show By _ _ _ _
        exact by_cut (H.out.below hB2 (Nat.le_refl _)) (Nat.min_le_right _ _) Hc.out
      have hcut := fun w => run_cutl w a m c (min p m) (Nat.min_le_right _ _)
      have HR := hide1 hrow
      have HE := hide1 hbe
      have HC := hide1 c1
      clear hrow hbe hwr hB2 hp
      generalize wordAt l (4 * k) = x at HT HW
      by_cases hpm : p ≤ m
      · rw [Nat.min_eq_left hpm] at HW HBy hcut
        generalize cutAt a c p = ac at HW HBy hcut
        go_wp2_with (first | (go_at_call 94; refine (HW.out _ HBy.out).mono ?_; rintro e w' ⟨rfl, rfl⟩))
        go_roundw
        case rel =>
          refine ⟨k + 1, by omega, by go_num, ?_, ?_⟩
          · rw [set32 HR.out, HT.out]
          · exact HE.out.setCell (Nat.le_refl _) _
        case measure => simp [intOf]; omega
      · rw [Nat.min_eq_right (by omega), Nat.sub_self] at HW HBy hcut
        have hpm' : ¬ (p : Int) ≤ (m : Int) := by omega
        generalize cutAt a c m = ac at HW HBy hcut
        go_wp2_with (first | (go_at_call 94; refine (HW.out _ HBy.out).mono ?_; rintro e w' ⟨rfl, rfl⟩))
        go_roundw
        case rel =>
          refine ⟨k + 1, by omega, by go_num, ?_, ?_⟩
          · rw [set32 HR.out, HT.out]
          · exact HE.out.setCell (Nat.le_refl _) _
        case measure => simp [intOf]; omega
    · have : k = 16 := by omega
      subst this
      rw [told_all (zeros_length _)] at hrow
      have hrow' : wr.heap[w.heap.size + 1]? = some (row32 136 (wordsOf l)) := hrow
      have hr2 : wr.heap[w.heap.size]? = some (row32 136 (zeros 16)) := (hbe.block _ (by omega)).trans H1.out
      have HR := hide1 hrow'
      have HR2 := hide1 hr2
      have HE := hide1 hbe
      have hz : (u32s (wordsOf l)).toArray.size = 16 := by simp [u32s, wordsOf_length]
      have Hz := hide1 hz
      clear hrow hrow' hr2 hbe hz
      go_wp2_with (first | (refine wpList_load_row rfl 136 (.tmp 3) rfl (w.heap.size + 1) rfl 136 (u32s (wordsOf l)).toArray (0, 0) _ HR.out Tryd.underlying136 rfl (by rw [Hz.out]; kernel_rfl) ?_) | (refine wpList_store_own rfl 136 (.tmp 2) (.tmp 19) rfl w.heap.size rfl (u32s (wordsOf l)).toArray rfl 136 _ HR2.out (by rw [Hz.out]; kernel_rfl) (by rw [Hz.out]; simp [u32s, zeros]) (all_one (u32s_one _)) ?_))
      refine ret_row Tryd.results74 w.heap.size 136 (u32s (wordsOf l)).toArray rfl (setRow_heap _ _ _ _ _ _ HR2.out) Tryd.underlying136 (by rw [Hz.out]; kernel_rfl) rfl ⟨rfl, ?_⟩
      exact Below.setRow' (HB.out.trans (HE.out.mono (by omega))) (Nat.le_refl _) _

end Go.Proofs.YtlkkninnfiaedaaDoor.Sh
