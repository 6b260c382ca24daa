/- Lists, place by place: AddAll, SubAll. AddAll, SubAll, and the walk of RingLists where it says little. The document's check of how many bits numbers have. Corrections and shares as lists; two lists of words as they grow; the document's word on widths. -/
import Derived.Test.YtdmodknjcdkocaaJ34
import Derived.Deep.RegionWith
import Derived.Test.YtdmodknjcdkocaaJ33
import Derived.Test.YtdmodknjcdkocaaJ31
namespace Go.Proofs.Ytdmodknjcdkocaa.Ri
open Go.RowKit
set_option maxRecDepth 100000
attribute [local go_sem] not_any mf_any

theorem paired_no (V : FuncId) (l : Int) (w : World) (m n ca cb : Nat) (a b : Option Addr) (h : m ≠ n) :
    Calls Try.prog 47 #[.int .i64 l, .slice a m ca, .slice b n cb, .func (.func V) #[] #[]] w fun e w' => e = .returned (.tuple #[.slice none 0 0, .int .i64 11]) ∧ w' = w := by
  have h' : ((m : Int) != (n : Int)) = true := by rw [bne_iff_ne]; omega
  go_enter Try.func47, Try.ntmps47
  go_wp2
  go_ret2
  exact ⟨rfl, rfl⟩

set_option maxHeartbeats 2000000 in
theorem paired_any (V : FuncId) (hV : V = 24) (l : Int) (f : Nat → Nat → Nat) (w : World) (m ca cb : Nat) (a b : Option Addr) (xs ys : List Nat) (ha : Nl w m a xs) (hb : Nl w m b ys) (hm : m ≤ 4194304)
    (hcall : ∀ k W, k < m → Calls Try.prog V #[.int .i64 l, .int .u64 (at0 xs k : Nat), .int .u64 (at0 ys k : Nat)] W fun e w' => e = .returned (.int .u64 (f (at0 xs k) (at0 ys k) : Nat)) ∧ w' = W) :
    Calls Try.prog 47 #[.int .i64 l, .slice a m ca, .slice b m cb, .func (.func V) #[] #[]] w fun e w' => e = .returned (.tuple #[.slice (some ⟨w.heap.size, 0, none⟩) m m, .int .i64 0]) ∧ w'.heap[w.heap.size]? = some (wrow (told (fun j => f (at0 xs j) (at0 ys j)) 0 m m)) ∧ Below w.heap.size w w' := by
  have HA := hide1 ha
  have HB := hide1 hb
  have HC := hide1 hcall
  clear ha hb hcall
  have hmk := make_words m hm
  have h' : ((m : Int) != (m : Int)) = false := by simp
  have hen : ∀ args w, (callFunc V args).run Try.prog w = .ok (.enter V args) w := by
    subst hV
    intro args w
    kernel_rfl
  go_enter Try.func47, Try.ntmps47
  go_wp2
  clear hmk
  go_loopw [22] (fun i wr => ∃ k : Nat, k ≤ m ∧ i = .int .i64 k ∧ wr.heap[w.heap.size]? = some (wrow (told (fun j => f (at0 xs j) (at0 ys j)) 0 m k)) ∧ Below w.heap.size w wr) (fun i _ => m - (intOf i).toNat)
  case atStart =>
    refine ⟨0, Nat.zero_le _, rfl, ?_, (Below.refl _ _).alloc (Nat.le_refl _) _⟩
    rw [told_zero]
    exact heap_alloc_new _ _
  case round =>
    obtain ⟨k, hk, rfl, hr, hB⟩ := hrel
    by_cases hlt : k < m
    · obtain ⟨ga, oa, rfl, hca⟩ := (HA.out.below hB (Nat.le_refl _)).val hlt
      obtain ⟨gb, ob, rfl, hcb⟩ := (HB.out.below hB (Nat.le_refl _)).val hlt
      have hf := frozen_of_row wr w.heap.size k _ _ hr
      have hc2 := row_cell hr (told_get hlt)
      have hM := fun W => hide1 (HC.out k W hlt)
      have HR := hide1 hr
      have HBe := hide1 hB
      have HT := hide1 (told_succ (fun j => f (at0 xs j) (at0 ys j)) 0 (m := m) (k := k))
      obtain ⟨t, ht⟩ : ∃ t, t = f (at0 xs k) (at0 ys k) := ⟨_, rfl⟩
      rw [← ht] at hM HT
      obtain ⟨x, hx⟩ : ∃ x, x = at0 xs k := ⟨_, rfl⟩
      obtain ⟨y, hy⟩ : ∃ y, y = at0 ys k := ⟨_, rfl⟩
      rw [← hx] at hca hM
      rw [← hy] at hcb hM
      clear hr hB ht hx hy
      go_wp2
      subst hV
      go_region_with (first | (go_at_call 24; refine (hM _).out.mono ?_; rintro e w' ⟨rfl, rfl⟩))
      all_goals
        go_wp2
        go_roundw
        case rel =>
          refine ⟨k + 1, by omega, by go_num, ?_, ?_⟩
          · rw [HT.out]
            exact wset HR.out
          · exact HBe.out.drew.setCell (Nat.le_refl _) _
        case measure => simp [intOf]; omega
    · have : k = m := by omega
      subst this
      go_wp2
      go_ret2
      exact ⟨rfl, hr, hB⟩

end Go.Proofs.Ytdmodknjcdkocaa.Ri

namespace Go.Proofs.Ytdmodknjcdkocaa.Ri
open Go.RowKit
set_option maxRecDepth 100000
attribute [local go_sem] not_any mf_any

theorem told_at0 {f : Nat → Nat} {m j : Nat} (h : j < m) : at0 (told f 0 m m) j = f j := by
  rw [at0_eq (told_get h), if_pos h]

theorem nl_told {w : World} {g m : Nat} {f : Nat → Nat} (h : w.heap[g]? = some (wrow (told f 0 m m))) : Nl w m (some ⟨g, 0, none⟩) (told f 0 m m) := by
  have := nl_row h
  rwa [told_length] at this

def sums (l : Int) (xs ys : List Nat) (m : Nat) : List Nat := told (fun j => fit l (at0 xs j + at0 ys j)) 0 m m
def diffs (l : Int) (xs ys : List Nat) (m : Nat) : List Nat := told (fun j => fit l (at0 xs j + (18446744073709551616 - at0 ys j))) 0 m m
def scaled (l : Int) (k : Nat) (xs : List Nat) (m : Nat) : List Nat := told (fun j => fit l (k * at0 xs j)) 0 m m

theorem addall_any (l : Int) (w : World) (m ca cb : Nat) (a b : Option Addr) (xs ys : List Nat) (ha : Nl w m a xs) (hb : Nl w m b ys) (hm : m ≤ 4194304) :
    Calls Try.prog 35 #[.int .i64 l, .slice a m ca, .slice b m cb] w fun e w' => ∃ a', e = .returned (.tuple #[.slice a' m m, .int .i64 0]) ∧ Nl w' m a' (sums l xs ys m) ∧ Below w.heap.size w w' := by
  have hP := fun w h1 h2 => hide1 (paired_any 24 rfl l (fun x y => fit l (x + y)) w m ca cb a b xs ys h1 h2 hm (fun k W _ => add_any l _ _ W))
  have HA := hide1 ha
  have HB := hide1 hb
  clear ha hb
  go_enter Try.func35, Try.ntmps35
  go_wp2_with (first | (go_at_call 47; refine (hP _ HA.out HB.out).out.mono ?_; rintro e w' ⟨rfl, hr, hBe⟩; have HR := hide1 hr; have HE := hide1 hBe; clear hr hBe))
  go_ret2
  exact ⟨_, rfl, nl_told HR.out, HE.out⟩

theorem addall_no (l : Int) (w : World) (m n ca cb : Nat) (a b : Option Addr) (h : m ≠ n) :
    Calls Try.prog 35 #[.int .i64 l, .slice a m ca, .slice b n cb] w fun e w' => e = .returned (.tuple #[.slice none 0 0, .int .i64 11]) ∧ w' = w := by
  have hP := fun V w => hide1 (paired_no V l w m n ca cb a b h)
  go_enter Try.func35, Try.ntmps35
  go_wp2_with (first | (go_at_call 47; refine (hP _ _).out.mono ?_; rintro e w' ⟨rfl, rfl⟩))
  go_ret2
  exact ⟨rfl, rfl⟩

end Go.Proofs.Ytdmodknjcdkocaa.Ri

namespace Go.Proofs.Ytdmodknjcdkocaa.Ri
open Go.RowKit
set_option maxRecDepth 100000
attribute [local go_sem] not_any mf_any

set_option maxHeartbeats 4000000 in
theorem rfits_any (L : Nat) (w : World) (m c : Nat) (a : Option Addr) (ws : List Nat) (ha : Nl w m a ws) (hs : Small ws) (hm : m ≤ 4194304) (h1 : 1 ≤ L) (h2 : L ≤ 64) :
    Calls Try.prog 17 #[.int .i64 (L : Int), .slice a m c] w fun e w' => e = .returned (.bool (fitsAll (L : Int) ws)) ∧ ∃ q, w' = w.drewN q := by
  have HA := hide1 ha
  have HS := hide1 hs
  clear ha hs
  go_enter Try.func17, Try.ntmps17
  go_wp2
  go_loopw [5] (fun i wr => ∃ k q : Nat, k ≤ m ∧ i = .int .i64 k ∧ (∀ x ∈ ws.take k, fit (L : Int) x = x) ∧ wr = w.drewN q) (fun i _ => m - (intOf i).toNat)
  case atStart => exact ⟨0, 0, Nat.zero_le _, rfl, by simp, rfl⟩
  case round =>
    obtain ⟨k, q, hk, rfl, hE, rfl⟩ := hrel
    by_cases hlt : k < m
    · obtain ⟨x, g, o, hx, rfl, hcc⟩ := HA.out.get hlt
      have hc := hcc q
      have hF : ∀ w, Hid (Calls Try.prog 15 #[.int .i64 (L : Int), .int .u64 (x : Int)] w fun e w' => e = .returned (.int .u64 (fit (L : Int) x : Nat)) ∧ w' = w) := fun w => by rw [fit_nat h1 h2]; exact rfit_any L x w h1 h2 (HS.out k x hx)
      have HE := hide1 hE
      have HX := hide1 hx
      obtain ⟨W, hW⟩ : ∃ W, w.drewN q = W := ⟨_, rfl⟩
      rw [hW] at hc
      rw [hW]
      have HW := hide1 hW
      clear hcc hE hx hW
      by_cases hxy : fit (L : Int) x = x
      · rw [hxy] at hF
        have h2 : ((x : Int) != (x : Int)) = false := by simp
        have HH := hide1 hxy
        clear hxy
        go_wp2
        go_quiet (first | (go_at_call 15; exact Calls.quiet_of_same (hF _).out))
        go_wp2
        go_roundw
        case rel => exact ⟨k + 1, q + nq, by omega, by go_num, fits_take HE.out HX.out HH.out, by rw [← HW.out]; exact World.drewN_drewN _ _ _⟩
        case measure => simp [intOf]; omega
      · obtain ⟨y, hy⟩ : ∃ y, y = fit (L : Int) x := ⟨_, rfl⟩
        rw [← hy] at hF hxy
        have HY := hide1 hy
        clear hy
        have h2 : ((y : Int) != (x : Int)) = true := by rw [bne_iff_ne]; omega
        go_wp2
        go_quiet (first | (go_at_call 15; exact Calls.quiet_of_same (hF _).out))
        go_wp2
        go_ret
        refine ⟨?_, q + nq, by rw [← HW.out]; exact World.drewN_drewN _ _ _⟩
        have : fitsAll (L : Int) ws = false := by
          apply decide_eq_false
          intro h
          exact hxy (HY.out.trans (h x (List.mem_of_getElem? HX.out)))
        rw [this]
        rfl
    · have : k = m := by omega
      subst this
      go_wp2
      go_ret
      refine ⟨?_, q, rfl⟩
      rw [List.take_of_length_le (by rw [HA.out.len]; omega)] at hE
      have : fitsAll (L : Int) ws = true := decide_eq_true hE
      rw [this]
      rfl

end Go.Proofs.Ytdmodknjcdkocaa.Ri

namespace Go.Proofs.Ytdmodknjcdkocaa.Co
open Go.RowKit Pg Ro
set_option maxRecDepth 100000
attribute [local go_sem] not_any T.mf_any

theorem hide1 {p : Prop} (h : p) : Hid p := h
theorem wrap_i64_nat {x : Nat} (h : x ≤ 4194304) : IntKind.i64.wrap (x : Int) = (x : Int) := by
  rw [IntKind.wrap_i64]
  omega
/- a list told by a function -/
def tl (F : Nat → Nat) (n : Nat) : List Nat := (List.range n).map F
theorem tl_length (F : Nat → Nat) (n : Nat) : (tl F n).length = n := by simp [tl]
theorem tl_succ (F : Nat → Nat) (n : Nat) : tl F (n + 1) = tl F n ++ [F n] := by rw [tl, tl, List.range_succ, List.map_append]; rfl
theorem tl_get {F : Nat → Nat} {n j : Nat} (h : j < n) : (tl F n)[j]? = some (F j) := by rw [tl, List.getElem?_map, List.getElem?_range h]; rfl
theorem tl_at {F : Nat → Nat} {n j : Nat} (h : j < n) : at0 (tl F n) j = F j := by rw [at0, tl_get h]; rfl
theorem tl_congr {F G : Nat → Nat} {n : Nat} (h : ∀ j, j < n → F j = G j) : tl F n = tl G n := List.map_congr_left fun j hj => h j (List.mem_range.1 hj)
theorem tl_self (l : List Nat) : tl (at0 l) l.length = l := by
  apply List.ext_getElem?
  intro j
  by_cases hj : j < l.length
  · rw [tl_get hj, at0, List.getElem?_eq_getElem hj]; rfl
  · rw [List.getElem?_eq_none (by rw [tl_length]; omega), List.getElem?_eq_none (by omega)]

/- the numbers of a seed; a correction, a sender's share, a share of who chose -/
def nb (s : List Nat) (B n : Nat) : List Nat := (wrd s 1 0 n).map (cutN B)
theorem nb_length (s : List Nat) (B n : Nat) : (nb s B n).length = n := by rw [nb, List.length_map, wrd_length]
theorem nb_lt (s : List Nat) {B n i : Nat} (_hB : B ≤ 64) (h : i < n) : at0 (nb s B n) i < 2 ^ B := by
  rw [at0, nb, List.getElem?_map, get_at0 (by rw [wrd_length]; exact h)]
  exact Nat.mod_lt _ (pow_pos2 B)
theorem nb_lt64 (s : List Nat) {B n i : Nat} (hB : B ≤ 64) (h : i < n) : at0 (nb s B n) i < 18446744073709551616 := Nat.lt_of_lt_of_le (nb_lt s hB h) (Ro.pow_le64 hB)
def fixV (B x a b : Nat) : Nat := (x + a + (18446744073709551616 - b)) % 2 ^ B
def ownV (B a : Nat) : Nat := (18446744073709551616 - a) % 2 ^ B
def gotV (B : Nat) (c : Bool) (l f : Nat) : Nat := if c then (l + f) % 2 ^ B else l
theorem fixV_lt (B x a b : Nat) : fixV B x a b < 2 ^ B := Nat.mod_lt _ (pow_pos2 B)
theorem ownV_lt (B a : Nat) : ownV B a < 2 ^ B := Nat.mod_lt _ (pow_pos2 B)
theorem fixV_two (B x a b : Nat) : ((x + a) % 2 ^ B + (18446744073709551616 - b)) % 2 ^ B = fixV B x a b := by rw [fixV, Nat.mod_add_mod]
/- at the place k of all: the transfer k / n, its number k % n -/
def fixF (B n : Nat) (f : Nat → List Nat) (X : Nat → Nat) (k : Nat) : Nat := fixV B (X k) (at0 (nb (f (2 * (k / n))) B n) (k % n)) (at0 (nb (f (2 * (k / n) + 1)) B n) (k % n))
def ownF (B n : Nat) (f : Nat → List Nat) (k : Nat) : Nat := ownV B (at0 (nb (f (2 * (k / n))) B n) (k % n))
def gotF (B n : Nat) (s : Nat → List Nat) (ch : Nat → Bool) (Y : Nat → Nat) (k : Nat) : Nat := gotV B (ch (k / n)) (at0 (nb (s (k / n)) B n) (k % n)) (Y k)
theorem place_div {j n i : Nat} (h : i < n) : (j * n + i) / n = j := by
  rw [Nat.add_comm, Nat.add_mul_div_right _ _ (by omega), Nat.div_eq_of_lt h, Nat.zero_add]
theorem place_mod {j n i : Nat} (h : i < n) : (j * n + i) % n = i := by
  rw [Nat.add_comm, Nat.add_mul_mod_self_right, Nat.mod_eq_of_lt h]
theorem fixF_at {B n j i : Nat} (f : Nat → List Nat) (X : Nat → Nat) (h : i < n) : fixF B n f X (j * n + i) = fixV B (X (j * n + i)) (at0 (nb (f (2 * j)) B n) i) (at0 (nb (f (2 * j + 1)) B n) i) := by
  rw [fixF, place_div h, place_mod h]
theorem ownF_at {B n j i : Nat} (f : Nat → List Nat) (h : i < n) : ownF B n f (j * n + i) = ownV B (at0 (nb (f (2 * j)) B n) i) := by
  rw [ownF, place_div h, place_mod h]
theorem gotF_at {B n j i : Nat} (s : Nat → List Nat) (ch : Nat → Bool) (Y : Nat → Nat) (h : i < n) : gotF B n s ch Y (j * n + i) = gotV B (ch j) (at0 (nb (s j) B n) i) (Y (j * n + i)) := by
  rw [gotF, place_div h, place_mod h]
theorem fixF_lt (B n : Nat) (f : Nat → List Nat) (X : Nat → Nat) (k : Nat) : fixF B n f X k < 2 ^ B := fixV_lt _ _ _ _
theorem ownF_lt (B n : Nat) (f : Nat → List Nat) (k : Nat) : ownF B n f k < 2 ^ B := ownV_lt _ _

/- may a width and a number not be? -/
def bad (W n : Int) : Bool := decide (W < 1 ∨ 64 < W ∨ n < 1 ∨ 6 < n)
theorem bad_no {W n : Int} (h : bad W n = false) : ∃ B m : Nat, W = B ∧ n = m ∧ 1 ≤ B ∧ B ≤ 64 ∧ 1 ≤ m ∧ m ≤ 6 := by
  have h := of_decide_eq_false h
  exact ⟨W.toNat, n.toNat, by omega, by omega, by omega, by omega, by omega, by omega⟩
theorem bad_of {B n : Nat} (h1 : 1 ≤ B) (h2 : B ≤ 64) (h3 : 1 ≤ n) (h4 : n ≤ 6) : bad (B : Int) (n : Int) = false := decide_eq_false (by omega)
theorem wrong_any (W n : Int) (w : World) : Calls Try.prog 26 #[.int .i64 W, .int .i64 n] w fun e w' => e = .returned (.bool (bad W n)) ∧ w' = w := by
  by_cases h1 : W < 1
  · have hb : bad W n = true := decide_eq_true (by omega)
    rw [hb]
    go_enter Try.func26, Try.ntmps26
    go_wp2
    go_ret
    exact ⟨rfl, rfl⟩
  · by_cases h2 : 64 < W
    · have hb : bad W n = true := decide_eq_true (by omega)
      rw [hb]
      go_enter Try.func26, Try.ntmps26
      go_wp2
      go_ret
      exact ⟨rfl, rfl⟩
    · by_cases h3 : n < 1
      · have hb : bad W n = true := decide_eq_true (by omega)
        rw [hb]
        go_enter Try.func26, Try.ntmps26
        go_wp2
        go_ret
        exact ⟨rfl, rfl⟩
      · by_cases h4 : 6 < n
        · have hb : bad W n = true := decide_eq_true (by omega)
          rw [hb]
          go_enter Try.func26, Try.ntmps26
          go_wp2
          go_ret
          exact ⟨rfl, rfl⟩
        · have hb : bad W n = false := decide_eq_false (by omega)
          rw [hb]
          go_enter Try.func26, Try.ntmps26
          go_wp2
          go_ret
          exact ⟨rfl, rfl⟩

/- two lists of words, as they grow -/
structure Tw (w : World) (base : Nat) (vA : Value) (p : Nat) (F : Nat → Nat) (vB : Value) (q : Nat) (G : Nat → Nat) : Prop where
  a : w.ownsRow base 49 1 vA p (V.u64s (tl F p))
  b : w.ownsRow base 49 1 vB q (V.u64s (tl G q))
  ap : ∀ x, vA.ownBlock = some x → vB.ownBlock ≠ some x
theorem Tw.swap {w : World} {base p q : Nat} {vA vB : Value} {F G : Nat → Nat} (h : Tw w base vA p F vB q G) : Tw w base vB q G vA p F := ⟨h.b, h.a, fun x e h9 => h.ap x h9 e⟩
theorem Tw.below {w w' : World} {base p q : Nat} {vA vB : Value} {F G : Nat → Nat} (h : Tw w base vA p F vB q G) (hb : Below w.heap.size w w') : Tw w' base vA p F vB q G := ⟨own_below h.a hb, own_below h.b hb, h.ap⟩
theorem Tw.nil (w : World) (base : Nat) (F G : Nat → Nat) : Tw w base (.slice none 0 0) 0 F (.slice none 0 0) 0 G := ⟨World.ownsRow_nil _ _ _ _, World.ownsRow_nil _ _ _ _, fun x e => by cases e⟩
theorem Tw.add {w w' : World} {base p q g cap : Nat} {vA vB : Value} {F G : Nat → Nat} (h : Tw w base vA p F vB q G) (ho : w'.ownsRow base 49 1 (.slice (some ⟨g, 0, none⟩) (p + 1) cap) (p + 1) (V.u64s (tl F p) ++ V.u64s [F p]))
    (hg : w.grownBy w' vA.ownBlock) (hl : vA.ownBlock = some g ∨ g = w.heap.size) : Tw w' base (.slice (some ⟨g, 0, none⟩) (p + 1) cap) (p + 1) F vB q G := by
  refine ⟨?_, h.b.kept hg ?_, fun x e h9 => ?_⟩
  · rw [tl_succ, V.u64s, List.map_append]
    exact ho
  · cases hb : vB.ownBlock with
    | none => exact .inl rfl
    | some x => exact .inr (fun e => h.ap x e.symm hb)
  · have e' : g = x := by simpa [Value.ownBlock] using e
    rcases hl with hl | hl
    · exact h.ap g hl (by rw [e']; exact h9)
    · have := (h.b.lt x h9).2
      omega
theorem own_nl {w : World} {base n c : Nat} {a : Option Addr} {F : Nat → Nat} (h : w.ownsRow base 49 1 (.slice a n c) n (V.u64s (tl F n))) : T.Nl w n a (tl F n) := by
  rcases mn_own (tl_length F n) h with h0 | ⟨g, rfl, _, hm⟩
  · refine ⟨tl_length F n, fun j x hj => absurd (List.getElem?_eq_some_iff.1 hj).1 ?_⟩
    rw [tl_length]
    omega
  · exact hm.nl (tl_length F n)
theorem row_form {w : World} {base n : Nat} {e : TypeId} {v : Value} {xs : List Value} (h : w.ownsRow base e 1 v n xs) : ∃ a c, v = .slice a n c := by
  rcases h.2 with ⟨rfl, rfl⟩ | ⟨g, cap, cur, rfl, _⟩
  · exact ⟨none, 0, rfl⟩
  · exact ⟨_, _, rfl⟩
theorem nl_val {w : World} {m k : Nat} {a : Option Addr} {l : List Nat} (h : T.Nl w m a l) (hk : k < m) : ∃ g o, a = some ⟨g, o, none⟩ ∧ w.cell? ⟨g, o + k, none⟩ = some (.int .u64 (at0 l k : Nat)) := by
  have hl : k < l.length := by rw [h.len]; exact hk
  obtain ⟨g, o, e, hc⟩ := h.at' k _ (List.getElem?_eq_getElem hl)
  refine ⟨g, o, e, hc.trans ?_⟩
  rw [at0, List.getElem?_eq_getElem hl]
  rfl
theorem small_at {l : List Nat} (h : Ri.Small l) (k : Nat) : at0 l k < 18446744073709551616 := by
  by_cases hk : k < l.length
  · have h2 := h k _ (List.getElem?_eq_getElem hk)
    rw [at0, List.getElem?_eq_getElem hk]
    exact h2
  · rw [at0, List.getElem?_eq_none (by omega)]
    exact (by decide : 0 < 18446744073709551616)
theorem place_lt {j m i n : Nat} (hj : j < m) (hi : i < n) : j * n + i < m * n := by
  have h : (j + 1) * n ≤ m * n := Nat.mul_le_mul_right n hj
  rw [Nat.succ_mul] at h
  omega
theorem ri_nl {w : World} {m : Nat} {a : Option Addr} {l : List Nat} (h : T.Nl w m a l) : Ri.Nl w m a l := ⟨h.len, h.at'⟩
theorem t_nl {w : World} {m : Nat} {a : Option Addr} {l : List Nat} (h : Ri.Nl w m a l) : T.Nl w m a l := ⟨h.len, h.at'⟩
end Go.Proofs.Ytdmodknjcdkocaa.Co
