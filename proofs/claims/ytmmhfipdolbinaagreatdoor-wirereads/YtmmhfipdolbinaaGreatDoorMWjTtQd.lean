/- The chapter's example. WireReads. How the arguments are opened; what the laid variable gives. -/
import Derived.Test.YtmmhfipdolbinaaGreatDoorWg
import Derived.Test.YtmmhfipdolbinaaGreatDoorTs
import Derived.Test.YtmmhfipdolbinaaGreatDoorFd
import Derived.Test.YtmmhfipdolbinaaGreatDoorCards
import Derived.Test.YtmmhfipdolbinaaGreatDoorTie
import Derived.ProofKit
import Derived.OpenShut
import Derived.ShutString
import Derived.ChangeSame
import Derived.ChangeVars
import Derived.ChangeOld
import Derived.ChangeMaps5
import Derived.JoinedOf
import Derived.RowKit
import Derived.RowKitTokens
import Derived.LaidLaws
import Derived.LaidHandle
import Derived.Stop.Joined
import Derived.SevenTiedAt
import Derived.Deep.Grids
import Derived.Deep.Slices
import Derived.Carry
namespace Go.Proofs.YtmmhfipdolbinaaGreatDoor
open Go.RowKit
set_option maxRecDepth 100000
attribute [local go_sem] not_any mf_any

def exA : It := ⟨1, 258, ⟨#[]⟩, 0, none, 0, 0, [], none, 0, 0, []⟩
def exB (g : Nat) : It := ⟨5, 0, ⟨#[]⟩, 12, some ⟨g, 0, none⟩, 2, 2, [1, 300], none, 0, 0, []⟩
def exW (w : World) : World := (w.alloc (.cells #[.int .u64 1, .int .u64 300] 34)).alloc (.cells #[.int .i64 1, .int .u64 258, .string ⟨#[]⟩, .int .i64 0, .slice none 0 0, .slice none 0 0, .int .i64 5, .int .u64 0, .string ⟨#[]⟩, .int .i64 12, .slice (some ⟨w.heap.size, 0, none⟩) 2 2, .slice none 0 0] 38)

theorem nl_nil (w : World) : Nl w 0 none [] := ⟨rfl, fun k x h => by simp at h⟩
theorem bl_nil (w : World) : Bl w 0 none [] := ⟨rfl, fun k x h => by simp at h⟩
theorem ex_its (w : World) : Its (exW w) 2 (some ⟨w.heap.size + 1, 0, none⟩) [exA, exB w.heap.size] := by
  have h0 : (exW w).heap[w.heap.size]? = some (wrow [1, 300]) := heap_alloc2_old _ _ _
  have h1 : (exW w).heap[w.heap.size + 1]? = some (.cells #[.int .i64 1, .int .u64 258, .string ⟨#[]⟩, .int .i64 0, .slice none 0 0, .slice none 0 0, .int .i64 5, .int .u64 0, .string ⟨#[]⟩, .int .i64 12, .slice (some ⟨w.heap.size, 0, none⟩) 2 2, .slice none 0 0] 38 (0, 0)) := heap_alloc2_new _ _ _
  refine ⟨rfl, fun k i hk => ?_⟩
  match k, hk with
  | 0, hk =>
    obtain rfl := Option.some.inj hk
    refine ⟨⟨_, 0, rfl, ?_⟩, nl_nil _, bl_nil _, by decide, by decide⟩
    constructor <;> (rw [cell_of_row (exW w) _ _ _ _ _ h1]; rfl)
  | 1, hk =>
    obtain rfl := Option.some.inj hk
    refine ⟨⟨_, 0, rfl, ?_⟩, ⟨rfl, fun j x hj => ⟨_, 0, rfl, ?_⟩⟩, bl_nil _, by simp [exB], by simp [exB]⟩
    · constructor <;> (rw [cell_of_row (exW w) _ _ _ _ _ h1]; rfl)
    · rw [Nat.zero_add]
      exact row_cell h0 hj
  | k + 2, hk => simp at hk
theorem ex_fit (g : Nat) : ∀ i ∈ [exA, exB g], Fit i := by
  intro i hi
  rcases List.mem_cons.1 hi with rfl | hi
  · exact ⟨by decide, by decide, by decide, fun h => by cases h⟩
  · obtain rfl := List.mem_singleton.1 hi
    exact ⟨by simp [exB, ByteArray.size], by simp [exB], by simp [exB], fun _ => ⟨by simp [exB], by simp [exB]⟩⟩
theorem ex_txt (g : Nat) : txt (itsB [exA, exB g]) = ⟨#[0, 0, 1, 2, 0, 0, 0, 2, 0, 1, 1, 44]⟩ := by
  have h1 : itB exA = [0, 0, 1, 2] := by rw [itB1 rfl]; rfl
  have h2 : itB (exB g) = [0, 0, 0, 2, 0, 1, 1, 44] := by rw [itB5 rfl]; simp [exB, fix, wordsB]
  have : itsB [exA, exB g] = [0, 0, 1, 2, 0, 0, 0, 2, 0, 1, 1, 44] := by simp [itsB, h1, h2]
  rw [this]
  rfl

theorem awake_any (w : World) : Calls Tryz.prog 4 #[] w fun e w' => e = .returned (.bool true) ∧ Below w.heap.size w w' := by
  have k := hide1 (written_any (exW w) 2 2 _ _ (ex_its w) (ex_fit _) (by decide))
  rw [ex_txt] at k
  unfold exW at k
  go_enter Tryz.func4, Tryz.ntmps4
  go_wp2_with (go_at_call 7; refine k.out.mono ?_; rintro e w1 ⟨rfl, hb⟩)
  go_ret
  refine ⟨rfl, (((Below.refl _ _).alloc (Nat.le_refl _) _).alloc (by simp) _).trans (hb.mono ?_)⟩
  simp
  omega
end Go.Proofs.YtmmhfipdolbinaaGreatDoor

namespace Go.Proofs.YtmmhfipdolbinaaGreatDoor
open Go.RowKit
set_option maxRecDepth 100000
attribute [local go_sem] not_any mf_any

/- calls in memory, to be read -/
structure Ac (w : World) (m : Nat) (a : Option Addr) (l : List (Int × Int × Int)) : Prop where
  len : l.length = m
  at' : ∀ (j : Nat) (x : Int × Int × Int), l[j]? = some x → ∃ g o, a = some ⟨g, o, none⟩ ∧ w.cell? ⟨g, o + j * 3, none⟩ = some (.int .i64 x.1) ∧ w.cell? ⟨g, o + j * 3 + 1, none⟩ = some (.int .i64 x.2.1) ∧ w.cell? ⟨g, o + j * 3 + 2, none⟩ = some (.int .i64 x.2.2)
theorem Ac.next {w w' : World} {m : Nat} {a : Option Addr} {l : List (Int × Int × Int)} (h : Ac w m a l) (hB : Below w.heap.size w w') : Ac w' m a l :=
  ⟨h.len, fun j x hj => by
    obtain ⟨g, o, h1, h2, h3, h4⟩ := h.at' j x hj
    have hg := lt_cell h2
    exact ⟨g, o, h1, (hB.cell (p := ⟨g, o + j * 3, none⟩) hg).trans h2, (hB.cell (p := ⟨g, o + j * 3 + 1, none⟩) hg).trans h3, (hB.cell (p := ⟨g, o + j * 3 + 2, none⟩) hg).trans h4⟩⟩
theorem Ac.val {w : World} {m : Nat} {a : Option Addr} {l : List (Int × Int × Int)} (h : Ac w m a l) {j : Nat} (hj : j < m) : ∃ g o x y z, a = some ⟨g, o, none⟩ ∧ w.cell? ⟨g, o + j * 3, none⟩ = some (.int .i64 x) ∧ w.cell? ⟨g, o + j * 3 + 1, none⟩ = some (.int .i64 y) ∧ w.cell? ⟨g, o + j * 3 + 2, none⟩ = some (.int .i64 z) := by
  obtain ⟨x, hx⟩ : ∃ x, l[j]? = some x := ⟨_, List.getElem?_eq_getElem (by rw [h.len]; exact hj)⟩
  obtain ⟨g, o, h1, h2, h3, h4⟩ := h.at' j x hx
  exact ⟨g, o, _, _, _, h1, h2, h3, h4⟩
theorem Bt.below {g d B : Nat} {w0 w w' : World} (h : Bt g d w w') (hb : Below B w0 w) (hg : B ≤ g) (hd : B ≤ d) (hs : B ≤ w.heap.size) : Below B w0 w' :=
  hb.trans ⟨h.os, h.tape, h.output, h.size, fun k hk => h.block k (by omega) (by omega) (by omega)⟩
/- on the way -/
structure Way (g dd : Nat) (s : ByteArray) (w wr : World) : Prop where
  out : ∃ (k : Nat) (c : Int) (f : ByteArray), k ≤ s.size ∧ wr.heap[g]? = some (rdr s k c f) ∧ wr.heap[dd]? = some (drow s k c)
  below : Below w.heap.size w wr
theorem Way.next {g dd : Nat} {s : ByteArray} {w wr w' : World} {e : Ending} (h : Way g dd s w wr) (k : StepP g dd s wr e w') (hg : w.heap.size ≤ g) (hd : w.heap.size ≤ dd) : e = .returned (.bool true) ∧ Way g dd s w w' := by
  obtain ⟨k1, c1, f1, h1, h2, h3, h4, h5⟩ := k.out
  exact ⟨h2, ⟨k1, c1, f1, h1, h3, h4⟩, h5.below h.below hg hd h.below.size⟩

theorem reads_long (w : World) (m ca : Nat) (aa : Option Addr) (s : ByteArray) (hs : s.size ≤ 281474976710656) (hL : 3000 < s.size) :
    Calls Tryz.prog 3 #[.string s, .slice aa m ca] w fun e w' => e = .returned (.bool true) ∧ Below w.heap.size w w' := by
  have HA := hide1 (awake_any w)
  have h1 : (3000 : Int) < (s.size : Int) := by omega
  go_enter Tryz.func3, Tryz.ntmps3
  go_wp2_with fail
  refine HA.out.mono ?_
  rintro e w1 ⟨rfl, hb⟩
  go_wp2
  go_ret
  exact ⟨rfl, hb⟩

set_option maxHeartbeats 4000000 in
theorem reads_short (w : World) (m ca : Nat) (aa : Option Addr) (s : ByteArray) (l : List (Int × Int × Int)) (he : F.Et w) (hl : Ac w m aa l) (hL : s.size ≤ 3000) :
    Calls Tryz.prog 3 #[.string s, .slice aa m ca] w fun e w' => e = .returned (.bool true) ∧ Below w.heap.size w w' := by
  have HN := fun w => hide1 (newReader_any s w)
  have h0 : 0 < w.heap.size := lt_cell he
  have H := hide1 (And.intro he hl)
  have h1 : ¬ (3000 : Int) < (s.size : Int) := by omega
  clear he hl
  go_enter Tryz.func3, Tryz.ntmps3
  go_wp2_with (go_at_call 5; refine (HN _).out.mono ?_; rintro e W1 ⟨rfl, rfl⟩)
  generalize hX : World.alloc (World.alloc w _) _ = X
  have HX : Hid (Way w.heap.size (w.heap.size + 1) s w X) := by
    refine ⟨⟨0, 0, ⟨#[]⟩, Nat.zero_le _, ?_, ?_⟩, ?_⟩
    · rw [← hX]; exact heap_alloc2_old w _ _
    · rw [← hX]; exact heap_alloc2_new w _ _
    · rw [← hX]; exact two_below _ _
  obtain ⟨dd, hdd⟩ : ∃ b, w.heap.size + 1 = b := ⟨_, rfl⟩
  obtain ⟨g, hg⟩ : ∃ b, w.heap.size = b := ⟨_, rfl⟩
  have HB : Shy (w.heap.size ≤ g ∧ w.heap.size ≤ dd ∧ g ≠ dd ∧ g ≠ 0 ∧ dd ≠ 0) := ⟨by omega, by omega, by omega, by omega, by omega⟩
  rw [hdd] at HX ⊢
  have HX2 : Hid (Way g dd s w X) := by have h := HX.out; rw [hg] at h; exact h
  rw [hg]
  clear hX hdd hg HX HN
  go_loopw [7] (fun i wr => ∃ j : Nat, j ≤ m ∧ j ≤ 40 ∧ i = .int .i64 (j : Int) ∧ Way g dd s w wr) (fun i _ => 40 - (intOf i).toNat)
  case atStart => exact ⟨0, Nat.zero_le _, Nat.zero_le _, rfl, HX2.out⟩
  case round =>
    obtain ⟨j, hj, hj4, rfl, hD⟩ := hrel
    by_cases hend : j < m ∧ j < 40
    · obtain ⟨hjm, hj40⟩ := hend
      have hj40i : (j : Int) < 40 := by omega
      obtain ⟨b, o, x, y, z, rfl, c1, c2, c3⟩ := (H.out.2.next hD.below).val hjm
      obtain ⟨k, c, f, hk, hr, hr2⟩ := hD.out
      have HK := hide1 (reads_any g dd k s f c x y z wr hr hr2 HB.out.2.2.1 (H.out.1.below hD.below h0) HB.out.2.2.2.1 HB.out.2.2.2.2 hk hL)
      have HD := hide1 hD
      clear hD HX2 hr hr2 hk
      go_wp2_with fail
      refine HK.out.mono ?_
      intro e w1 hst
      obtain ⟨rfl, hD1⟩ := HD.out.next hst HB.out.1 HB.out.2.1
      have HD1 := hide1 hD1
      clear hD1 HK c1 c2 c3 hst HD
      go_wp2
      exact ⟨⟨j + 1, by omega, by omega, by go_num, HD1.out⟩, by simp [intOf]; omega⟩
    · have HA := hide1 (awake_any wr)
      have HB2 := hide1 hD.below
      clear hD HX2
      by_cases h40 : j < 40
      · have hjm : j = m := by omega
        subst hjm
        have hj40i : (j : Int) < 40 := by omega
        clear hend
        go_wp2_with fail
        refine HA.out.mono ?_
        rintro e w1 ⟨rfl, hb⟩
        have HB1 := hide1 (HB2.out.trans (hb.mono HB2.out.size))
        clear hb
        go_wp2
        go_ret
        exact ⟨rfl, HB1.out⟩
      · have : j = 40 := by omega
        subst this
        rw [show ((40 : Nat) : Int) = 40 from rfl]
        clear hend h40 hj4
        by_cases hm : (40 : Int) < (m : Int)
        · go_wp2_with fail
          refine HA.out.mono ?_
          rintro e w1 ⟨rfl, hb⟩
          have HB1 := hide1 (HB2.out.trans (hb.mono HB2.out.size))
          clear hb
          go_wp2
          go_ret
          exact ⟨rfl, HB1.out⟩
        · have hm0 : m = 40 := by omega
          subst hm0
          go_wp2_with fail
          refine HA.out.mono ?_
          rintro e w1 ⟨rfl, hb⟩
          have HB1 := hide1 (HB2.out.trans (hb.mono HB2.out.size))
          clear hb
          go_wp2
          go_ret
          exact ⟨rfl, HB1.out⟩

theorem reads_all (w : World) (m ca : Nat) (aa : Option Addr) (s : ByteArray) (l : List (Int × Int × Int)) (he : F.Et w) (hl : Ac w m aa l) (hs : s.size ≤ 281474976710656) :
    Calls Tryz.prog 3 #[.string s, .slice aa m ca] w fun e w' => e = .returned (.bool true) ∧ Below w.heap.size w w' := by
  by_cases hL : s.size ≤ 3000
  · exact reads_short w m ca aa s l he hl hL
  · exact reads_long w m ca aa s hs (by omega)

end Go.Proofs.YtmmhfipdolbinaaGreatDoor

namespace Go.Proofs.YtmmhfipdolbinaaGreatDoor
open Go.ChangeShapes Go.WideShapes Go.RowKit Go.Deep

theorem own : ownKnob Tryz.prog.godebug = none := by kernel_rfl
theorem laidOut : laidOutB Tryz.prog = true := by kernel_rfl
theorem et_named : Tryz.prog.globalNamed "errors.errorType" = some 0 := by kernel_rfl
theorem rt_cut : (Tryz.prog.cutTypes.find? (·.1 == "internal/reflectlite.rtype")).map (·.2) = some 175 := by kernel_rfl
theorem oneRow : ((List.range 213).filter fun t => Tryz.prog.rowNamed t [101, 114, 114, 111, 114]) = [66] := by kernel_rfl
theorem types_size : Tryz.prog.types.size = 213 := by kernel_rfl

/- what the row's list gives a walk: the variable's one cell -/
theorem et_of_laid {W : World} (h : laidMetH Tryz.prog [("errors.errorType", Rows.laid_errors_errorType)] W) : F.Et W := by
  have h' : laidMet Tryz.prog [] W ∧ handlesMet Tryz.prog [("errors.errorType", Rows.laid_errors_errorType)] W := h
  obtain ⟨name, u, ty, e1, e2, e3, e4, e5⟩ := h'.2 _ (List.mem_singleton.2 rfl)
  have en : name = [101, 114, 114, 111, 114] := (Option.some.inj e1).symm
  subst en
  obtain rfl := Option.some.inj (rt_cut.symm.trans e2)
  have hm : ty ∈ (List.range 213).filter fun t => Tryz.prog.rowNamed t [101, 114, 114, 111, 114] := List.mem_filter.2 ⟨List.mem_range.2 (by rw [← types_size]; exact e3), e4⟩
  rw [oneRow] at hm
  obtain rfl := List.mem_singleton.1 hm
  have hh : typeHandle Tryz.prog 66 = .pointer (some ⟨1, 66, none⟩) := by kernel_rfl
  rw [hh] at e5
  simpa [F.Et] using World.var?_cell et_named e5 0

theorem laid_met (os : Os) (args : Array Value) : laidMetH Tryz.prog [("errors.errorType", Rows.laid_errors_errorType)] (({ World.holding Tryz.prog os ⟨#[], #[], []⟩ with heap := (World.holding Tryz.prog os ⟨#[], #[], []⟩).heap.modify 0 fun  | .cells _ t frozen => .cells #[.iface 175 (.agg #[.pointer (some ⟨1, 66, none⟩)])] t frozen  | o => o } : World).forCall (fun _ _ => 0) ⟨#[], args, []⟩).memory :=
  laidMetH_of_parts (laidMet_nil _ _) (by kernel_rfl)
theorem cells31 : Tryz.prog.cellsOf 31 = 3 := by kernel_rfl
theorem cells3 : Tryz.prog.cellsOf 3 = 1 := by kernel_rfl
theorem three_list {α : Type} (l : List α) (h : l.length = 3) : ∃ a b c, l = [a, b, c] := by
  match l, h with
  | [a, b, c], _ => exact ⟨a, b, c, rfl⟩

theorem add_plain (g o j : Nat) : (⟨g, o, none⟩ : Addr).add j = ⟨g, o + j, none⟩ := by unfold Addr.add; split <;> simp_all
/- the calls, opened -/
theorem open_calls {H : Type} {enc : TypeId × Value → H} {W : World} {held : Bool} {fuel : Nat} {a : Option Addr} {len cap : Nat} {x : DataW H × List MemPlace} (h : DataW.trod enc Tryz.prog W 0 (fun _ => true) held fuel 22 [.slice a len cap] = some x) :
    ∃ l : List (Int × Int × Int), Ac W len a l := by
  rcases open_slice Tryz.underlying22 h with ⟨h0, _⟩ | ⟨ad, len', cap', m, n, D, Pl, hcs, _, hl, _, hmm, _, hx⟩
  · cases h0
    exact ⟨[], rfl, fun k r hk => by simp at hk⟩
  cases hcs
  have hlm : len ≤ m := by rw [hmm]; split <;> omega
  have each : ∀ i, i < len → ∃ q : Int × Int × Int, W.cell? (ad.add (i * 3)) = some (.int .i64 q.1) ∧ W.cell? (ad.add (i * 3 + 1)) = some (.int .i64 q.2.1) ∧ W.cell? (ad.add (i * 3 + 2)) = some (.int .i64 q.2.2) := by
    intro i hi
    obtain ⟨cs', h1, h2⟩ := hx i (by omega)
    rw [cells31] at h1
    obtain ⟨_, hlen, hcell⟩ := World.cells?_some h1
    obtain ⟨xs, k, hk, hxy, _, hxl, hf⟩ := DataW.trod_struct Tryz.underlying31 h2
    have hxl' : xs.length = 3 := hxl
    clear hxl
    obtain ⟨y0, y1, y2, rfl⟩ := three_list xs hxl'
    obtain ⟨v0, v1, v2, rfl⟩ := three_list cs' hlen
    have g0 := hf 0 _ rfl
    have g1 := hf 1 _ rfl
    have g2 := hf 2 _ rfl
    simp [cells3] at g0 g1 g2
    obtain ⟨q0, e0, _, _⟩ := DataW.trod_int Tryz.underlying3 g0
    obtain ⟨q1, e1, _, _⟩ := DataW.trod_int Tryz.underlying3 g1
    obtain ⟨q2, e2, _, _⟩ := DataW.trod_int Tryz.underlying3 g2
    simp only [List.cons.injEq, and_true] at e0 e1 e2
    subst e0; subst e1; subst e2
    have c0 := hcell 0 (by omega)
    have c1 := hcell 1 (by omega)
    have c2 := hcell 2 (by omega)
    rw [add_add] at c0 c1 c2
    exact ⟨⟨q0, q1, q2⟩, by simpa using c0, by simpa using c1, by simpa using c2⟩
  obtain ⟨q, hq⟩ := choose_lt each
  refine ⟨(List.range len).map q, by simp, fun k r hk => ?_⟩
  have hkl : k < len := by
    have := (List.getElem?_eq_some_iff.1 hk).1
    simpa using this
  have hr : r = q k := by
    simp [hkl] at hk
    exact hk.symm
  subst hr
  have hsp : ad.spot = none := by
    have := World.cell?_spot (hq 0 (by omega)).1
    simpa [Addr.add] using this
  obtain ⟨g, o, sp0⟩ := ad
  simp only at hsp
  subst hsp
  obtain ⟨c0, c1, c2⟩ := hq k hkl
  rw [add_plain] at c0 c1 c2
  exact ⟨g, o, rfl, c0, by simpa [Nat.add_assoc] using c1, by simpa [Nat.add_assoc] using c2⟩


end Go.Proofs.YtmmhfipdolbinaaGreatDoor
