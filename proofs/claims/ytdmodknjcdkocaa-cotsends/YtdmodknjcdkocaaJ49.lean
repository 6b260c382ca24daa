/- The walk of CotSends. How the arguments are opened. How the arguments are opened. A key opened. -/
import Derived.Test.YtdmodknjcdkocaaJ48
import Derived.Test.YtdmodknjcdkocaaJ29
import Derived.ProofKit
import Derived.OpenShut
import Derived.ShutString
import Derived.ChangeOld
import Derived.Below
import Derived.Deep.Grids
import Derived.Test.YtdmodknjcdkocaaJ01
namespace Go.Proofs.Ytdmodknjcdkocaa.Co
open Go.RowKit Pg Ro
set_option maxRecDepth 100000
attribute [local go_sem] not_any T.mf_any

theorem fixL_len {W n : Int} {m N : Nat} {f : Nat → List Nat} {xs : List Nat} : (fixL W n m N f xs).length ≤ N := by
  unfold fixL
  split
  · rw [tl_length]; exact Nat.le_refl _
  · exact Nat.zero_le _
theorem ownL_len {W n : Int} {m N : Nat} {f : Nat → List Nat} {xs : List Nat} : (ownL W n m N f xs).length ≤ N := by
  unfold ownL
  split
  · rw [tl_length]; exact Nat.le_refl _
  · exact Nat.zero_le _

theorem sends_else (W n : Int) (m N c cx : Nat) (a ax : Option Addr) (w : World) (hbig : 30 < m ∨ 200 < N) :
    Calls Try.prog 3 #[.int .i64 W, .int .i64 n, .slice a m c, .slice ax N cx] w fun e w' => e = .returned (.bool true) ∧ Below w.heap.size w w' := by
  have kA := fun w => hide1 (awake_any w)
  by_cases h1 : 30 < m
  · have t1 : (30 : Int) < (m : Int) := by omega
    clear hbig h1
    go_enter Try.func3, Try.ntmps3
    go_wp2_with fail
    go_at_call 7
    refine (kA _).out.mono ?_
    rintro e w9 ⟨rfl, hb9⟩
    have B9 := hide1 hb9
    clear hb9
    go_wp2
    go_ret
    exact ⟨rfl, B9.out⟩
  · have t1 : ¬ (30 : Int) < (m : Int) := by omega
    have t2 : (200 : Int) < (N : Int) := by omega
    clear hbig h1
    go_enter Try.func3, Try.ntmps3
    go_wp2_with fail
    go_at_call 7
    refine (kA _).out.mono ?_
    rintro e w9 ⟨rfl, hb9⟩
    have B9 := hide1 hb9
    clear hb9
    go_wp2
    go_ret
    exact ⟨rfl, B9.out⟩

set_option maxHeartbeats 4000000 in
theorem sends_in (W n : Int) (m N c cx : Nat) (a ax : Option Addr) (f : Nat → List Nat) (xs : List Nat) (w : World) (hp : Pd w m a f) (hx : T.Nl w N ax xs) (hs : Ri.Small xs) (hcx : N ≤ cx) (hm : m ≤ 30) (hN : N ≤ 200) :
    Calls Try.prog 3 #[.int .i64 W, .int .i64 n, .slice a m c, .slice ax N cx] w fun e w' => e = .returned (.bool true) ∧ Below w.heap.size w w' := by
  have kA := fun w => hide1 (awake_any w)
  have kS := fun d g V (h1 : Pd V m g f) (h2 : T.Nl V N ax xs) => hide1 (send_any W n m N d cx g ax f xs V h1 h2 hs (by omega) (by omega) hcx)
  have kQ := fun V (h1 : Pd V m a f) (h2 : T.Nl V N ax xs) => hide1 (rsend_any W n m N c cx a ax f xs V h1 h2 hs (by omega) (by omega))
  have HP := hide1 hp
  have HX := hide1 hx
  have hl1 : (fixL W n m N f xs).length ≤ 200 := Nat.le_trans fixL_len hN
  have hl2 : (ownL W n m N f xs).length ≤ 200 := Nat.le_trans ownL_len hN
  unfold SPostC at kS
  unfold SPost at kQ
  generalize fixL W n m N f xs = L1 at *
  generalize ownL W n m N f xs = L2 at *
  generalize cod (ok W n m N xs) = q at *
  have HL := hide1 (And.intro hl1 hl2)
  have t1 : ¬ (30 : Int) < (m : Int) := by omega
  have t2 : ¬ (200 : Int) < (N : Int) := by omega
  clear hp hx hs hl1 hl2
  go_enter Try.func3, Try.ntmps3
  go_wp2_with fail
  go_at_call 9
  refine (pairs_any m c a f w HP.out (by omega)).mono ?_
  rintro e w1 ⟨g1, d1, rfl, hp1, hb1⟩
  have B1 := hide1 hb1
  have P1 := hide1 hp1
  clear hp1 hb1
  go_wp2_with fail
  go_at_call 8
  refine (kS _ _ w1 P1.out (HX.out.below B1.out (Nat.le_refl _))).out.mono ?_
  rintro e w2 ⟨a1, k1, c1, a2, k2, c2, rfl, r1, r2, hb, _⟩
  have B2 := hide1 (B1.out.trans (hb.mono B1.out.size))
  have R1 := hide1 r1
  have R2 := hide1 r2
  clear r1 r2 hb B1 P1 kS
  go_wp2_with fail
  go_at_call 10
  refine (kQ w2 (HP.out.below B2.out (Nat.le_refl _)) (HX.out.below B2.out (Nat.le_refl _))).out.mono ?_
  rintro e w3 ⟨a3, k3, c3, a4, k4, c4, rfl, r3, r4, hb⟩
  obtain rfl : k1 = k3 := by rw [← R1.out.len, ← r3.len]
  obtain rfl : k2 = k4 := by rw [← R2.out.len, ← r4.len]
  have h1 : k1 ≤ 200 := by rw [← R1.out.len]; exact HL.out.1
  have h2 : k2 ≤ 200 := by rw [← R2.out.len]; exact HL.out.2
  have B3 := hide1 (B2.out.trans (hb.mono B2.out.size))
  have R1 := hide1 (R1.out.below hb (Nat.le_refl _))
  have R2 := hide1 (R2.out.below hb (Nat.le_refl _))
  have R3 := hide1 r3
  have R4 := hide1 r4
  have qq : (q == q) = true := beq_self_eq_true q
  clear r3 r4 hb B2 kQ HP HX HL
  go_wp2_with fail
  go_at_call 11
  refine (T.nums_any w3 k1 c1 c3 a1 a3 L1 R1.out R3.out (by omega)).mono ?_
  rintro e w4 ⟨rfl, q4, hq⟩
  have hb : Below w3.heap.size w3 w4 := by rw [hq]; exact below_drewN' (Below.refl _ _) q4
  have B4 := hide1 (B3.out.trans (hb.mono B3.out.size))
  have R2 := hide1 (R2.out.below hb (Nat.le_refl _))
  have R4 := hide1 (R4.out.below hb (Nat.le_refl _))
  clear hq hb B3 R1 R3
  go_wp2_with fail
  go_at_call 11
  refine (T.nums_any w4 k2 c2 c4 a2 a4 L2 R2.out R4.out (by omega)).mono ?_
  rintro e w5 ⟨rfl, q5, hq⟩
  have hb : Below w4.heap.size w4 w5 := by rw [hq]; exact below_drewN' (Below.refl _ _) q5
  have B5 := hide1 (B4.out.trans (hb.mono B4.out.size))
  clear hq hb B4 R2 R4
  go_wp2_with fail
  go_at_call 7
  refine (kA _).out.mono ?_
  rintro e w6 ⟨rfl, hb6⟩
  have B6 := hide1 (B5.out.trans (hb6.mono B5.out.size))
  clear hb6
  go_wp2
  go_ret
  exact ⟨rfl, B6.out⟩

theorem sends_all (W n : Int) (m N c cx : Nat) (a ax : Option Addr) (f : Nat → List Nat) (xs : List Nat) (w : World) (hp : Pd w m a f) (hx : T.Nl w N ax xs) (hs : Ri.Small xs) (hcx : N ≤ cx) :
    Calls Try.prog 3 #[.int .i64 W, .int .i64 n, .slice a m c, .slice ax N cx] w fun e w' => e = .returned (.bool true) ∧ Below w.heap.size w w' := by
  by_cases h : 30 < m ∨ 200 < N
  · exact sends_else W n m N c cx a ax w h
  · exact sends_in W n m N c cx a ax f xs w hp hx hs hcx (by omega) (by omega)
end Go.Proofs.Ytdmodknjcdkocaa.Co

namespace Go.Proofs.Ytdmodknjcdkocaa.T
open Go.ChangeShapes Go.WideShapes Go.RowKit Go.Deep

theorem own : ownKnob Try.prog.godebug = none := by kernel_rfl
theorem laidOut : laidOutB Try.prog = true := by kernel_rfl
theorem cells4 : Try.prog.cellsOf 4 = 1 := by kernel_rfl

theorem open_bl {H : Type} {enc : TypeId × Value → H} {W : World} {held : Bool} {fuel : Nat} {a : Option Addr} {len cap : Nat} {x : DataW H × List MemPlace} (h : DataW.trod enc Try.prog W 0 (fun _ => true) held fuel 35 [.slice a len cap] = some x) :
    ∃ l : List Bool, Bl W len a l := by
  rcases open_bools Try.underlying35 Try.underlying4 cells4 h with ⟨h0, _⟩ | ⟨ad, l', c', B, hcs, _, hl, _, _, hcell⟩
  · cases h0
    exact ⟨[], rfl, fun j x hj => by simp at hj⟩
  · cases hcs
    refine ⟨(List.range len).map B, by simp, fun j x hj => ?_⟩
    have hjl : j < len := by
      have := (List.getElem?_eq_some_iff.1 hj).1
      simpa using this
    have hx : x = B j := by
      simp [hjl] at hj
      exact hj.symm
    subst hx
    have hc := hcell j (by omega)
    have hsp : ad.spot = none := by
      have := World.cell?_spot (hcell 0 (by omega))
      simpa [Addr.add] using this
    obtain ⟨g, o, sp0⟩ := ad
    simp only at hsp
    subst hsp
    refine ⟨g, o, rfl, ?_⟩
    have e : (⟨g, o, none⟩ : Addr).add j = ⟨g, o + j, none⟩ := by unfold Addr.add; split <;> simp_all
    rwa [e] at hc

end Go.Proofs.Ytdmodknjcdkocaa.T

namespace Go.Proofs.Ytdmodknjcdkocaa.Pg
open Go.ChangeShapes Go.WideShapes Go.RowKit Go.Deep

theorem own : ownKnob Try.prog.godebug = none := by kernel_rfl
theorem laidOut : laidOutB Try.prog = true := by kernel_rfl

theorem nat_u64 {n : Int} (h : (Lit.int .u64 n).wf = true) : ∃ a : Nat, n = (a : Int) ∧ a < 18446744073709551616 := by
  have := bounds_u64 h
  exact ⟨n.toNat, by omega, by omega⟩
theorem nat_u32 {n : Int} (h : (Lit.int .u32 n).wf = true) : ∃ a : Nat, n = (a : Int) ∧ a < 4294967296 := by
  have := bounds_u32 h
  exact ⟨n.toNat, by omega, by omega⟩
theorem nat_u16 {n : Int} (h : (Lit.int .u16 n).wf = true) : ∃ a : Nat, n = (a : Int) ∧ a < 65536 := by
  have := bounds_u16 h
  exact ⟨n.toNat, by omega, by omega⟩
theorem nat_u8 {n : Int} (h : (Lit.int .u8 n).wf = true) : ∃ a : Nat, n = (a : Int) ∧ a < 256 := by
  have := bounds_u8 h
  exact ⟨n.toNat, by omega, by omega⟩

end Go.Proofs.Ytdmodknjcdkocaa.Pg

namespace Go.Proofs.Ytdmodknjcdkocaa.Pg
open Go.ChangeShapes Go.WideShapes Go.RowKit
set_option maxRecDepth 100000

/- a key, opened -/
theorem open_key {H : Type} {enc : TypeId × Value → H} {W : World} {r : Reach} {b0 : Nat} {base : Nat} {spare : Nat → Bool} {held : Bool} {v : Value} {d : DataW H} {p : List MemPlace}
    (hv : Value.okWide Try.prog W r b0 46 v) (h : DataW.Trod enc Try.prog W base spare held 46 v d p) : ∃ l : List Nat, l.length = 32 ∧ Lt 256 l ∧ v = arr8 l := by
  have c23 : Try.prog.cellsOf 46 = 32 := by kernel_rfl
  have c5 : Try.prog.cellsOf 5 = 1 := by kernel_rfl
  have hv' : ∃ cs, v = .agg cs ∧ cs.size = Try.prog.cellsOf 46 := by
    simp only [Value.okWide, Try.underlying46] at hv
    obtain ⟨cs, h1, h2, _⟩ := hv
    exact ⟨cs, h1, h2⟩
  obtain ⟨cs, rfl, hsz⟩ := hv'
  rw [c23] at hsz
  obtain ⟨fuel, hf⟩ := h
  obtain ⟨xs, m, rfl, hx, hlen, hn, hel⟩ := DataW.trod_array Try.underlying46 hf
  have each : ∀ i, i < 32 → ∃ n : Nat, n < 256 ∧ cs[i]? = some (.int .u8 (n : Int)) := by
    intro i hi
    have hi' : i < xs.length := by rw [hn]; exact hi
    have h1 := hel i hi
    rw [List.getElem?_eq_getElem hi', c5, Nat.mul_one] at h1
    obtain ⟨z, e1, _, hz⟩ := DataW.trod_int Try.underlying5 h1
    have hlt : i < cs.size := by rw [hsz]; exact hi
    have e2 : (cs.toList.drop i).take 1 = [cs[i]] := by
      rw [List.drop_eq_getElem_cons (by simpa using hlt)]
      simp
    have e3 : [cs[i]] = [Value.int .u8 z] := e2.symm.trans e1
    have e4 : cs[i] = Value.int .u8 z := by simpa using e3
    obtain ⟨b1, b2⟩ := bounds_u8 hz
    refine ⟨z.toNat, by omega, ?_⟩
    rw [Array.getElem?_eq_getElem hlt, e4, Int.toNat_of_nonneg b1]
  have pick : ∃ f : Nat → Nat, ∀ i, i < 32 → f i < 256 ∧ cs[i]? = some (.int .u8 (f i : Int)) :=
    ⟨fun i => if h : i < 32 then (each i h).choose else 0, fun i hi => by
      simp only [hi, dif_pos]
      exact (each i hi).choose_spec⟩
  obtain ⟨f, hf2⟩ := pick
  refine ⟨(List.range 32).map f, by simp, ?_, ?_⟩
  · intro x hx
    simp only [List.mem_map, List.mem_range] at hx
    obtain ⟨i, hi, rfl⟩ := hx
    exact (hf2 i hi).1
  · unfold arr8 u8s
    refine congrArg Value.agg ?_
    apply Array.ext_getElem?
    intro i
    by_cases hi : i < 32
    · rw [(hf2 i hi).2]
      simp [hi]
    · rw [Array.getElem?_eq_none (by omega), Array.getElem?_eq_none (by simp; omega)]

end Go.Proofs.Ytdmodknjcdkocaa.Pg
