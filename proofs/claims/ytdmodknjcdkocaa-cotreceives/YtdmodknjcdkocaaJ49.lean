/- The walk of CotReceives. How the arguments are opened. How the arguments are opened. A key opened. -/
import Derived.Test.YtdmodknjcdkocaaJ48
import Derived.Test.YtdmodknjcdkocaaJ29
import Derived.ProofKit
import Derived.OpenShut
import Derived.ShutString
import Derived.ChangeOld
import Derived.Below
import Derived.Deep.Grids
import Derived.Test.YtdmodknjcdkocaaJ01
namespace Go.Proofs.Ytdmodknjcdkocaa.Co
open Go.RowKit Pg Ro
set_option maxRecDepth 100000
attribute [local go_sem] not_any T.mf_any

theorem gotL_len {W n : Int} {m M N : Nat} {s : Nat → List Nat} {ch : List Bool} {xs : List Nat} : (gotL W n m M N s ch xs).length ≤ N := by
  unfold gotL
  split
  · rw [tl_length]; exact Nat.le_refl _
  · exact Nat.zero_le _

theorem recs_else (W n : Int) (m M N c cc cx : Nat) (a ac ax : Option Addr) (w : World) (hbig : 30 < m ∨ 30 < M ∨ 200 < N) :
    Calls Try.prog 4 #[.int .i64 W, .int .i64 n, .slice a m c, .slice ac M cc, .slice ax N cx] w fun e w' => e = .returned (.bool true) ∧ Below w.heap.size w w' := by
  have kA := fun w => hide1 (awake_any w)
  by_cases h1 : 30 < m
  · have t1 : (30 : Int) < (m : Int) := by omega
    clear hbig h1
    go_enter Try.func4, Try.ntmps4
    go_wp2_with fail
    go_at_call 7
    refine (kA _).out.mono ?_
    rintro e w9 ⟨rfl, hb9⟩
    have B9 := hide1 hb9
    clear hb9
    go_wp2
    go_ret
    exact ⟨rfl, B9.out⟩
  · have t1 : ¬ (30 : Int) < (m : Int) := by omega
    by_cases h2 : 30 < M
    · have t2 : (30 : Int) < (M : Int) := by omega
      clear hbig h1 h2
      go_enter Try.func4, Try.ntmps4
      go_wp2_with fail
      go_at_call 7
      refine (kA _).out.mono ?_
      rintro e w9 ⟨rfl, hb9⟩
      have B9 := hide1 hb9
      clear hb9
      go_wp2
      go_ret
      exact ⟨rfl, B9.out⟩
    · have t2 : ¬ (30 : Int) < (M : Int) := by omega
      have t3 : (200 : Int) < (N : Int) := by omega
      clear hbig h1 h2
      go_enter Try.func4, Try.ntmps4
      go_wp2_with fail
      go_at_call 7
      refine (kA _).out.mono ?_
      rintro e w9 ⟨rfl, hb9⟩
      have B9 := hide1 hb9
      clear hb9
      go_wp2
      go_ret
      exact ⟨rfl, B9.out⟩

set_option maxHeartbeats 4000000 in
theorem recs_in (W n : Int) (m M N c cc cx : Nat) (a ac ax : Option Addr) (s : Nat → List Nat) (ch : List Bool) (xs : List Nat) (w : World) (hp : Sd w m a s) (hv : T.Bl w M ac ch) (hx : T.Nl w N ax xs) (hs : Ri.Small xs) (hcx : N ≤ cx) (hm : m ≤ 30) (hM : M ≤ 30) (hN : N ≤ 200) :
    Calls Try.prog 4 #[.int .i64 W, .int .i64 n, .slice a m c, .slice ac M cc, .slice ax N cx] w fun e w' => e = .returned (.bool true) ∧ Below w.heap.size w w' := by
  have kA := fun w => hide1 (awake_any w)
  have kR := fun av V (h1 : Sd V m a s) (h2 : T.Vc 0 V M av ch) (h3 : T.Nl V N ax xs) => hide1 (receive_any W n m M N c cx a av ax s ch xs V h1 h2 h3 hs (by omega) (by omega) (by omega) hcx)
  have kQ := fun V (h1 : Sd V m a s) (h2 : T.Bl V M ac ch) (h3 : T.Nl V N ax xs) => hide1 (rreceive_any W n m M N c cc cx a ac ax s ch xs V h1 h2 h3 hs (by omega) (by omega) (by omega))
  have kO := hide1 (T.of_any w M cc ac ch hv (by omega))
  have HP := hide1 hp
  have HX := hide1 hx
  have HV := hide1 hv
  have hl1 : (gotL W n m M N s ch xs).length ≤ 200 := Nat.le_trans gotL_len hN
  unfold RPost at kR kQ
  generalize gotL W n m M N s ch xs = L1 at *
  generalize cod (ok2 W n m M N xs) = q at *
  have HL := hide1 hl1
  have t1 : ¬ (30 : Int) < (m : Int) := by omega
  have t2 : ¬ (30 : Int) < (M : Int) := by omega
  have t3 : ¬ (200 : Int) < (N : Int) := by omega
  clear hp hx hs hl1 hv
  go_enter Try.func4, Try.ntmps4
  go_wp2_with fail
  go_at_call 12
  refine kO.out.mono ?_
  rintro e w1 ⟨av, rfl, hv, hb1⟩
  go_upto_region 4 with (fail)
  generalize hZ : World.alloc w1 _ = Z
  have zv : Z.heap[w1.heap.size]? = some (.cells #[.int .i64 (M : Int), .slice av (T.need M 64) (T.need M 64)] 37 (0, 0)) := by rw [← hZ]; exact heap_alloc_new _ _
  have zb : Below w1.heap.size w1 Z := by rw [← hZ]; exact (Below.refl _ _).alloc (Nat.le_refl _) _
  obtain ⟨gv, hgv⟩ : ∃ g, g = w1.heap.size := ⟨_, rfl⟩
  rw [← hgv] at zv
  rw [← hgv]
  have BZ := hide1 (hb1.trans (zb.mono hb1.size))
  have VC : Hid (T.Vc 0 Z M av ch) := (hv.below zb (Nat.le_refl _)).mono (Nat.zero_le _)
  obtain ⟨m0, m1, _⟩ := T.box2 zv
  clear hZ zv zb hgv hv hb1 kO
  go_wp2_with fail
  go_at_call 13
  refine (kR av Z (HP.out.below BZ.out (Nat.le_refl _)) VC.out (HX.out.below BZ.out (Nat.le_refl _))).out.mono ?_
  rintro e w2 ⟨a1, k1, c1, rfl, r1, hb⟩
  have B2 := hide1 (BZ.out.trans (hb.mono BZ.out.size))
  have R1 := hide1 r1
  clear r1 hb BZ VC kR m0 m1
  go_wp2_with fail
  go_at_call 14
  refine (kQ w2 (HP.out.below B2.out (Nat.le_refl _)) (HV.out.below B2.out (Nat.le_refl _)) (HX.out.below B2.out (Nat.le_refl _))).out.mono ?_
  rintro e w3 ⟨a3, k3, c3, rfl, r3, hb⟩
  obtain rfl : k1 = k3 := by rw [← R1.out.len, ← r3.len]
  have h1 : k1 ≤ 200 := by rw [← R1.out.len]; exact HL.out
  have B3 := hide1 (B2.out.trans (hb.mono B2.out.size))
  have R1 := hide1 (R1.out.below hb (Nat.le_refl _))
  have R3 := hide1 r3
  have qq : (q == q) = true := beq_self_eq_true q
  clear r3 hb B2 kQ HP HX HV HL
  go_wp2_with fail
  go_at_call 11
  refine (T.nums_any w3 k1 c1 c3 a1 a3 L1 R1.out R3.out (by omega)).mono ?_
  rintro e w4 ⟨rfl, q4, hq⟩
  have hb : Below w3.heap.size w3 w4 := by rw [hq]; exact below_drewN' (Below.refl _ _) q4
  have B4 := hide1 (B3.out.trans (hb.mono B3.out.size))
  clear hq hb B3 R1 R3
  go_wp2_with fail
  go_at_call 7
  refine (kA _).out.mono ?_
  rintro e w6 ⟨rfl, hb6⟩
  have B6 := hide1 (B4.out.trans (hb6.mono B4.out.size))
  clear hb6
  go_wp2
  go_ret
  exact ⟨rfl, B6.out⟩

theorem recs_all (W n : Int) (m M N c cc cx : Nat) (a ac ax : Option Addr) (s : Nat → List Nat) (ch : List Bool) (xs : List Nat) (w : World) (hp : Sd w m a s) (hv : T.Bl w M ac ch) (hx : T.Nl w N ax xs) (hs : Ri.Small xs) (hcx : N ≤ cx) :
    Calls Try.prog 4 #[.int .i64 W, .int .i64 n, .slice a m c, .slice ac M cc, .slice ax N cx] w fun e w' => e = .returned (.bool true) ∧ Below w.heap.size w w' := by
  by_cases h : 30 < m ∨ 30 < M ∨ 200 < N
  · exact recs_else W n m M N c cc cx a ac ax w h
  · exact recs_in W n m M N c cc cx a ac ax s ch xs w hp hv hx hs hcx (by omega) (by omega) (by omega)
end Go.Proofs.Ytdmodknjcdkocaa.Co

namespace Go.Proofs.Ytdmodknjcdkocaa.T
open Go.ChangeShapes Go.WideShapes Go.RowKit Go.Deep

theorem own : ownKnob Try.prog.godebug = none := by kernel_rfl
theorem laidOut : laidOutB Try.prog = true := by kernel_rfl
theorem cells4 : Try.prog.cellsOf 4 = 1 := by kernel_rfl

theorem open_bl {H : Type} {enc : TypeId × Value → H} {W : World} {held : Bool} {fuel : Nat} {a : Option Addr} {len cap : Nat} {x : DataW H × List MemPlace} (h : DataW.trod enc Try.prog W 0 (fun _ => true) held fuel 35 [.slice a len cap] = some x) :
    ∃ l : List Bool, Bl W len a l := by
  rcases open_bools Try.underlying35 Try.underlying4 cells4 h with ⟨h0, _⟩ | ⟨ad, l', c', B, hcs, _, hl, _, _, hcell⟩
  · cases h0
    exact ⟨[], rfl, fun j x hj => by simp at hj⟩
  · cases hcs
    refine ⟨(List.range len).map B, by simp, fun j x hj => ?_⟩
    have hjl : j < len := by
      have := (List.getElem?_eq_some_iff.1 hj).1
      simpa using this
    have hx : x = B j := by
      simp [hjl] at hj
      exact hj.symm
    subst hx
    have hc := hcell j (by omega)
    have hsp : ad.spot = none := by
      have := World.cell?_spot (hcell 0 (by omega))
      simpa [Addr.add] using this
    obtain ⟨g, o, sp0⟩ := ad
    simp only at hsp
    subst hsp
    refine ⟨g, o, rfl, ?_⟩
    have e : (⟨g, o, none⟩ : Addr).add j = ⟨g, o + j, none⟩ := by unfold Addr.add; split <;> simp_all
    rwa [e] at hc

end Go.Proofs.Ytdmodknjcdkocaa.T

namespace Go.Proofs.Ytdmodknjcdkocaa.Pg
open Go.ChangeShapes Go.WideShapes Go.RowKit Go.Deep

theorem own : ownKnob Try.prog.godebug = none := by kernel_rfl
theorem laidOut : laidOutB Try.prog = true := by kernel_rfl

theorem nat_u64 {n : Int} (h : (Lit.int .u64 n).wf = true) : ∃ a : Nat, n = (a : Int) ∧ a < 18446744073709551616 := by
  have := bounds_u64 h
  exact ⟨n.toNat, by omega, by omega⟩
theorem nat_u32 {n : Int} (h : (Lit.int .u32 n).wf = true) : ∃ a : Nat, n = (a : Int) ∧ a < 4294967296 := by
  have := bounds_u32 h
  exact ⟨n.toNat, by omega, by omega⟩
theorem nat_u16 {n : Int} (h : (Lit.int .u16 n).wf = true) : ∃ a : Nat, n = (a : Int) ∧ a < 65536 := by
  have := bounds_u16 h
  exact ⟨n.toNat, by omega, by omega⟩
theorem nat_u8 {n : Int} (h : (Lit.int .u8 n).wf = true) : ∃ a : Nat, n = (a : Int) ∧ a < 256 := by
  have := bounds_u8 h
  exact ⟨n.toNat, by omega, by omega⟩

end Go.Proofs.Ytdmodknjcdkocaa.Pg

namespace Go.Proofs.Ytdmodknjcdkocaa.Pg
open Go.ChangeShapes Go.WideShapes Go.RowKit
set_option maxRecDepth 100000

/- a key, opened -/
theorem open_key {H : Type} {enc : TypeId × Value → H} {W : World} {r : Reach} {b0 : Nat} {base : Nat} {spare : Nat → Bool} {held : Bool} {v : Value} {d : DataW H} {p : List MemPlace}
    (hv : Value.okWide Try.prog W r b0 46 v) (h : DataW.Trod enc Try.prog W base spare held 46 v d p) : ∃ l : List Nat, l.length = 32 ∧ Lt 256 l ∧ v = arr8 l := by
  have c23 : Try.prog.cellsOf 46 = 32 := by kernel_rfl
  have c5 : Try.prog.cellsOf 5 = 1 := by kernel_rfl
  have hv' : ∃ cs, v = .agg cs ∧ cs.size = Try.prog.cellsOf 46 := by
    simp only [Value.okWide, Try.underlying46] at hv
    obtain ⟨cs, h1, h2, _⟩ := hv
    exact ⟨cs, h1, h2⟩
  obtain ⟨cs, rfl, hsz⟩ := hv'
  rw [c23] at hsz
  obtain ⟨fuel, hf⟩ := h
  obtain ⟨xs, m, rfl, hx, hlen, hn, hel⟩ := DataW.trod_array Try.underlying46 hf
  have each : ∀ i, i < 32 → ∃ n : Nat, n < 256 ∧ cs[i]? = some (.int .u8 (n : Int)) := by
    intro i hi
    have hi' : i < xs.length := by rw [hn]; exact hi
    have h1 := hel i hi
    rw [List.getElem?_eq_getElem hi', c5, Nat.mul_one] at h1
    obtain ⟨z, e1, _, hz⟩ := DataW.trod_int Try.underlying5 h1
    have hlt : i < cs.size := by rw [hsz]; exact hi
    have e2 : (cs.toList.drop i).take 1 = [cs[i]] := by
      rw [List.drop_eq_getElem_cons (by simpa using hlt)]
      simp
    have e3 : [cs[i]] = [Value.int .u8 z] := e2.symm.trans e1
    have e4 : cs[i] = Value.int .u8 z := by simpa using e3
    obtain ⟨b1, b2⟩ := bounds_u8 hz
    refine ⟨z.toNat, by omega, ?_⟩
    rw [Array.getElem?_eq_getElem hlt, e4, Int.toNat_of_nonneg b1]
  have pick : ∃ f : Nat → Nat, ∀ i, i < 32 → f i < 256 ∧ cs[i]? = some (.int .u8 (f i : Int)) :=
    ⟨fun i => if h : i < 32 then (each i h).choose else 0, fun i hi => by
      simp only [hi, dif_pos]
      exact (each i hi).choose_spec⟩
  obtain ⟨f, hf2⟩ := pick
  refine ⟨(List.range 32).map f, by simp, ?_, ?_⟩
  · intro x hx
    simp only [List.mem_map, List.mem_range] at hx
    obtain ⟨i, hi, rfl⟩ := hx
    exact (hf2 i hi).1
  · unfold arr8 u8s
    refine congrArg Value.agg ?_
    apply Array.ext_getElem?
    intro i
    by_cases hi : i < 32
    · rw [(hf2 i hi).2]
      simp [hi]
    · rw [Array.getElem?_eq_none (by omega), Array.getElem?_eq_none (by simp; omega)]

end Go.Proofs.Ytdmodknjcdkocaa.Pg
