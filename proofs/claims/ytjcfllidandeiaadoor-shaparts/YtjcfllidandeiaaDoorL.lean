/- The document's Rounds: the constants, reckoned. -/
import Derived.Test.YtjcfllidandeiaaDoorK
import Derived.Deep.AppendLies
namespace Go.Proofs.YtjcfllidandeiaaDoor
open Go.RowKit
set_option maxRecDepth 100000
attribute [local go_sem] not_any

theorem info_of {P : Program} {t : TypeId} {z : Value} {s b : Nat} (h : (P.info? t).map (fun i => (i.zero, i.size, i.bytes)) = some (some z, s, b)) : ∃ i, P.info? t = some i ∧ i.zero = some z ∧ i.size = s ∧ i.bytes = b := by
  cases hq : P.info? t with
  | none => simp [hq] at h
  | some i =>
    simp [hq] at h
    exact ⟨i, rfl, h.1, h.2.1, h.2.2⟩
theorem info30 : (Tryd.prog.info? 30).map (fun i => (i.zero, i.size, i.bytes)) = some (some (.int .u32 0), 1, 4) := by kernel_rfl

/- a list of words that the call itself made -/
def Own32 (base : Nat) (w : World) (v : Value) (l : List Nat) : Prop := w.ownsRow base 30 1 v l.length (u32s l)

theorem own_val {base : Nat} {w : World} {v : Value} {l : List Nat} (h : Own32 base w v l) : ∃ a c, v = .slice a l.length c := by
  rcases h.2 with ⟨rfl, h0⟩ | ⟨g, cap, cur, rfl, _⟩
  · exact ⟨none, 0, by rw [h0]⟩
  · exact ⟨_, _, rfl⟩

theorem own_below {base : Nat} {w w' : World} {v : Value} {l : List Nat} (h : Own32 base w v l) (hb : Below w.heap.size w w') : Own32 base w' v l := by
  obtain ⟨h1, h2⟩ := h
  refine ⟨h1, ?_⟩
  rcases h2 with h2 | ⟨g, cap, cur, hv, hg, hh, r⟩
  · exact .inl h2
  · exact .inr ⟨g, cap, cur, hv, hg, (hb.block _ (lt_heap hh)).trans hh, r⟩

theorem rootTo_le (n : Nat) : ∀ j, j ≤ 36 → rootTo n j + 2 ^ (36 - j) ≤ 2 ^ 36
  | 0, _ => by simp [rootTo]
  | j + 1, h => by
    have := rootTo_le n j (by omega)
    rw [show 36 - j = (36 - (j + 1)) + 1 by omega, Nat.pow_succ] at this
    have e : 35 - j = 36 - (j + 1) := by omega
    rw [rootTo]
    split
    · rw [e]; omega
    · omega

theorem outP_no {p : Nat} (h : primeB p = false) : outP (p + 1) = outP p := by
  simp [outP, primesTo, List.range_succ, h]
theorem outP_yes {p : Nat} (h : primeB p = true) : outP (p + 1) = outP p ++ [rootP p] := by
  simp [outP, primesTo, List.range_succ, h]
theorem outP_two : outP 2 = [] := by decide +kernel
theorem outP_small {p : Nat} (h : p ≤ 311) : (outP p).length ≤ 63 := by
  rw [outP, List.length_map, ← primes311]
  exact ((List.range_sublist.2 h).filter _).length_le
theorem outP_end : (outP 312).length = 64 := by rw [outP, List.length_map, primes312]

def RPost (w : World) (e : Ending) (w' : World) : Prop := ∃ v, e = .returned v ∧ Own32 w.heap.size w' v ROOTS ∧ Below w.heap.size w w'

set_option maxHeartbeats 2000000 in
theorem rounds_any (w : World) :
    Calls Tryd.prog 18 #[] w (RPost w) := by
  obtain ⟨i0, hi, hz0, hz1, hz2⟩ := info_of info30
  go_enter Tryd.func18, Tryd.ntmps18
  go_wp2
  go_loopw [1, 2] (fun v1 v2 wr => ∃ p : Nat, 2 ≤ p ∧ p ≤ 312 ∧ v2 = .int .u64 p ∧ Own32 w.heap.size wr v1 (outP p) ∧ Below w.heap.size w wr) (fun _ v2 _ => 312 - (intOf v2).toNat)
  case atStart => exact ⟨2, by omega, by omega, rfl, by rw [outP_two]; exact World.ownsRow_nil _ _ _ _, Below.refl _ _⟩
  case round =>
    obtain ⟨p, hp1, hp2, rfl, ho, hb⟩ := hrel
    obtain ⟨a, c, rfl⟩ := own_val ho
    obtain ⟨V, hV⟩ : ∃ V, V = wr := ⟨_, rfl⟩
    subst hV
    have HO := hide1 ho
    have HB := hide1 hb
    clear ho hb
    by_cases hlt : p ≤ 311
    · have hk := outP_small hlt
      obtain ⟨k, hkk⟩ : ∃ k, k = (outP p).length := ⟨_, rfl⟩
      rw [← hkk] at hk
      have HK : Shy (k = (outP p).length) := ⟨hkk⟩
      rw [← hkk] at HO
      rw [← hkk]
      have hP := hide1 (prime_any p V (by omega))
      clear hkk
      cases hpr : primeB p with
      | false =>
        rw [hpr] at hP
        have HN : Shy (outP (p + 1) = outP p) := ⟨outP_no hpr⟩
        clear hpr
        go_wp2_with (first | (go_at_call 27; refine hP.out.mono ?_; rintro e w' ⟨rfl, hw'⟩; cases hw') | fail)
        go_roundw
        case rel => exact ⟨p + 1, by omega, by omega, by go_num, by rw [HN.out]; exact HO.out, HB.out⟩
        case measure => simp [intOf]; omega
      | true =>
        rw [hpr] at hP
        have HN : Shy (outP (p + 1) = outP p ++ [rootP p]) := ⟨outP_yes hpr⟩
        clear hpr
        go_wp2_with (first | (go_at_call 27; refine hP.out.mono ?_; rintro e w' ⟨rfl, hw'⟩; cases hw') | fail)
        go_loopw [3, 4] (fun v3 v4 wx => ∃ j : Nat, j ≤ 36 ∧ v4 = .int .i64 (35 - (j : Int)) ∧ v3 = .int .u64 (rootTo p j : Nat) ∧ Below V.heap.size V wx) (fun _ v4 _ => (intOf v4 + 1).toNat)
        case atStart => exact ⟨0, Nat.zero_le _, rfl, rfl, Below.refl _ _⟩
        case round =>
          obtain ⟨j, hj, rfl, rfl, hbx⟩ := hrel
          have HBX := hide1 hbx
          clear hbx
          by_cases hj36 : j < 36
          · obtain ⟨m, hm⟩ : ∃ m, m = 35 - j := ⟨_, rfl⟩
            have em : 35 - (j : Int) = (m : Int) := by omega
            rw [em]
            have hr := rootTo_le p j hj
            have hm36 : m ≤ 35 := by omega
            have h2m : 2 ^ m ≤ 2 ^ 35 := Nat.pow_le_pow_right (by omega) hm36
            have HN : Shy (rootTo p (j + 1) = if cubeP (rootTo p j + 2 ^ m) p then rootTo p j + 2 ^ m else rootTo p j) := ⟨by rw [rootTo, hm]⟩
            obtain ⟨x, hx⟩ : ∃ x, x = rootTo p j := ⟨_, rfl⟩
            rw [← hx] at hr
            have HN' : Shy (rootTo p (j + 1) = if cubeP (x + 2 ^ m) p then x + 2 ^ m else x) := ⟨by rw [hx]; exact HN.out⟩
            rw [← hx]
            have hx36 : x ≤ 68719476736 := Nat.le_trans (Nat.le_add_right _ _) hr
            obtain ⟨t, ht⟩ : ∃ t, t = 2 ^ m := ⟨_, rfl⟩
            have ht35 : t ≤ 34359738368 := by rw [ht]; exact h2m
            have et : (2 : Int) ^ m = (t : Int) := by rw [ht, Int.natCast_pow]; rfl
            obtain ⟨y, hy⟩ : ∃ y, y = x + t := ⟨_, rfl⟩
            have ey : (x : Int) + (t : Int) = (y : Int) := by omega
            have HN2 : Shy (rootTo p (j + 1) = if cubeP y p then y else x) := ⟨by rw [hy, ht]; exact HN'.out⟩
            have hC := fun w => hide1 (cube_any y p w (by omega) (by omega))
            have Hm := hide1 hm
            have hyb : (y : Int) < 1099511627776 := by omega
            clear hm hr h2m HN HN' hx ht hy em
            cases hcb : cubeP y p with
            | true =>
              rw [hcb] at hC
              have HN3 : Shy (rootTo p (j + 1) = y) := ⟨by rw [HN2.out, hcb]; rfl⟩
              clear hcb HN2
              go_wp2_with fail
              refine (hC _).out.mono ?_
              rintro e w5 ⟨rfl, hb5⟩
              have B5 : Hid (Below V.heap.size V w5) := HBX.out.trans (hb5.mono HBX.out.size)
              clear hb5 hC
              go_wp2
              go_roundw
              case rel => exact ⟨j + 1, by omega, by have := Hm.out; congr 1; omega, by rw [HN3.out], B5.out⟩
              case measure => simp [intOf]
            | false =>
              rw [hcb] at hC
              have HN3 : Shy (rootTo p (j + 1) = x) := ⟨by rw [HN2.out, hcb]; rfl⟩
              clear hcb HN2
              go_wp2_with fail
              refine (hC _).out.mono ?_
              rintro e w5 ⟨rfl, hb5⟩
              have B5 : Hid (Below V.heap.size V w5) := HBX.out.trans (hb5.mono HBX.out.size)
              clear hb5 hC
              go_wp2
              go_roundw
              case rel => exact ⟨j + 1, by omega, by have := Hm.out; congr 1; omega, by rw [HN3.out], B5.out⟩
              case measure => simp [intOf]
          · have : j = 36 := by omega
            subst this
            have e36 : 35 - ((36 : Nat) : Int) = -1 := rfl
            rw [e36]
            have HR : Shy (rootP p = rootTo p 36 % 4294967296) := ⟨rfl⟩
            obtain ⟨x, hx⟩ : ∃ x, x = rootTo p 36 := ⟨_, rfl⟩
            have HR' : Shy (rootP p = x % 4294967296) := ⟨by rw [hx]; exact HR.out⟩
            rw [← hx]
            obtain ⟨z, hz⟩ : ∃ z, z = x % 4294967296 := ⟨_, rfl⟩
            have ez : (x : Int) % 4294967296 = (z : Int) := by omega
            have ez' : IntKind.u32.wrap (x : Int) = (z : Int) := by rw [wrap32, hz]
            have HZ : Shy (rootP p = z) := ⟨by rw [hz]; exact HR'.out⟩
            have hown : Own32 w.heap.size wr (.slice a k c) (outP p) := by
              have := own_below HO.out HBX.out
              exact this
            have hbw : Below w.heap.size w wr := HB.out.trans (HBX.out.mono HB.out.size)
            have HOW := hide1 hown
            have HBW := hide1 hbw
            clear HR HR' hx hz hown hbw e36
            have hk63 : k + 1 ≤ 64 := by omega
            go_wp2_with (first
              | (at_builtin; refine wpList_append_lies _ rfl _ _ 45 rfl w.heap.size 30 i0 (.int .u32 0) 1 4 Tryd.underlying45 hi hz0 hz1 hz2 rfl (by decide) (.slice a k c) k (u32s (outP p)) rfl (by have := HOW.out; unfold Own32 at this; rw [← HK.out] at this; exact this.alloc _) ⟨wr.heap.size, 0, none⟩ 1 1 [.int .u32 (z : Int)] rfl rfl (cell_one_new _ _ _) (fun x hx => by simp at hx; subst hx; rfl) (by omega) (by unfold maxLen; omega) (by omega) (by have := HBW.out.size; simp; omega) _ rfl ?_; intro g6 cap6 w6 ro6 gr6 wh6 lt6)
              | fail)
            go_roundw
            case rel =>
              refine ⟨p + 1, by omega, by omega, by go_num, ?_, ?_⟩
              · rw [HN.out, HZ.out]
                unfold Own32
                rw [List.length_append, ← HK.out]
                have e : u32s (outP p ++ [z]) = u32s (outP p) ++ [Value.int .u32 (z : Int)] := by simp [u32s]
                rw [e]
                exact ro6
              · exact (HBW.out.alloc HBW.out.size _).grown gr6 (by have := HBW.out.size; simp; omega) (fun k hk => (HOW.out.lt k hk).1)
            case measure => simp [intOf]; omega
    · have : p = 312 := by omega
      subst this
      have HE : Shy ((outP 312).length = 64) := ⟨outP_end⟩
      have HQ : Shy (outP 312 = ROOTS) := ⟨out312⟩
      obtain ⟨k, hkk⟩ : ∃ k, k = (outP 312).length := ⟨_, rfl⟩
      rw [← hkk] at HO
      rw [← hkk]
      have hk64 : k = 64 := by rw [hkk]; exact HE.out
      rw [HQ.out] at HO
      clear hkk HE HQ
      subst hk64
      go_wp2
      go_ret
      exact ⟨_, rfl, HO.out, HB.out⟩
end Go.Proofs.YtjcfllidandeiaaDoor
