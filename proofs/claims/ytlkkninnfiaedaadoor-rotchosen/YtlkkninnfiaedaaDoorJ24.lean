/- Bytes taken: Write. The document's Padded. -/
import Derived.Test.YtlkkninnfiaedaaDoorJ23
import Derived.Test.YtlkkninnfiaedaaDoorJ22
import Derived.Laws.BytesString
namespace Go.Proofs.YtlkkninnfiaedaaDoor.Sh
open Go.RowKit
set_option maxRecDepth 100000
attribute [local go_sem] not_any

/- all that was there is as it was, but block b -/
structure But (b : Nat) (w w' : World) : Prop where
  os : w'.os = w.os
  tape : w'.tape = w.tape
  output : w'.output = w.output
  size : w.heap.size ≤ w'.heap.size
  block : ∀ k, k < w.heap.size → k ≠ b → w'.heap[k]? = w.heap[k]?

theorem But.refl (b : Nat) (w : World) : But b w w := ⟨rfl, rfl, rfl, Nat.le_refl _, fun _ _ _ => rfl⟩
theorem But.trans {b : Nat} {w1 w2 w3 : World} (h : But b w1 w2) (k : But b w2 w3) : But b w1 w3 :=
  ⟨k.os.trans h.os, k.tape.trans h.tape, k.output.trans h.output, Nat.le_trans h.size k.size, fun i hi hb => (k.block i (Nat.lt_of_lt_of_le hi h.size) hb).trans (h.block i hi hb)⟩
theorem But.of {b : Nat} {w w' : World} (h : Below w.heap.size w w') : But b w w' := ⟨h.os, h.tape, h.output, h.size, fun i hi _ => h.block i hi⟩
theorem But.drew {b : Nat} {w w' : World} (h : But b w w') : But b w w'.drew := ⟨h.os, h.tape, h.output, h.size, h.block⟩
theorem But.setCell {b : Nat} {w w' : World} (h : But b w w') (o : Nat) (v : Value) : But b w (w'.setCell ⟨b, o, none⟩ v) :=
  h.trans ⟨rfl, rfl, rfl, by simp [World.setCell], fun k _ hb => Below.heap_setCell _ _ _ _ hb⟩
theorem But.setRow {b : Nat} {w w' : World} (h : But b w w') (cs : Array Value) : But b w (w'.setRow b cs) :=
  h.trans ⟨rfl, rfl, rfl, by simp [World.setRow], fun k _ hb => setRow_other _ _ _ _ hb⟩
theorem But.below {b B : Nat} {w w' : World} (h : But b w w') (h1 : B ≤ b) (h2 : B ≤ w.heap.size) : Below B w w' :=
  ⟨h.os, h.tape, h.output, h.size, fun k hk => h.block k (by omega) (by omega)⟩

theorem Sums.eight {w : World} {b : Nat} {g r : List Nat} {n : Nat} (h : Sums w b g r n) : (w.cell? ⟨b, 0, none⟩ = some (.int .u32 (at0 g 0 : Nat)) ∧ w.cell? ⟨b, 1, none⟩ = some (.int .u32 (at0 g 1 : Nat)) ∧ w.cell? ⟨b, 2, none⟩ = some (.int .u32 (at0 g 2 : Nat)) ∧ w.cell? ⟨b, 3, none⟩ = some (.int .u32 (at0 g 3 : Nat)) ∧ w.cell? ⟨b, 4, none⟩ = some (.int .u32 (at0 g 4 : Nat)) ∧ w.cell? ⟨b, 5, none⟩ = some (.int .u32 (at0 g 5 : Nat)) ∧ w.cell? ⟨b, 6, none⟩ = some (.int .u32 (at0 g 6 : Nat)) ∧ w.cell? ⟨b, 7, none⟩ = some (.int .u32 (at0 g 7 : Nat))) ∧ w.frozen? ⟨b, 0, none⟩ = false ∧ w.frozen? ⟨b, 1, none⟩ = false ∧ w.frozen? ⟨b, 2, none⟩ = false ∧ w.frozen? ⟨b, 3, none⟩ = false ∧ w.frozen? ⟨b, 4, none⟩ = false ∧ w.frozen? ⟨b, 5, none⟩ = false ∧ w.frozen? ⟨b, 6, none⟩ = false ∧ w.frozen? ⟨b, 7, none⟩ = false :=
  ⟨⟨h.grown (by omega), h.grown (by omega), h.grown (by omega), h.grown (by omega), h.grown (by omega), h.grown (by omega), h.grown (by omega), h.grown (by omega)⟩, h.free _, h.free _, h.free _, h.free _, h.free _, h.free _, h.free _, h.free _⟩

theorem Sums.setOne {w : World} {b : Nat} {g r : List Nat} {n : Nat} (h : Sums w b g r n) (j x : Nat) (hj : j < 8) : Sums (w.setCell ⟨b, j, none⟩ (.int .u32 (x : Int))) b (g.set j x) r n := by
  refine ⟨?_, by simp [h.lg], h.lr⟩
  rw [heap_setCell_same w b j _ 105 _ h.row]
  have e1 : (u32s g).length = 8 := by simp [u32s, h.lg]
  congr 2
  rw [List.setIfInBounds_toArray]
  congr 1
  rw [scells, List.set_append_left _ _ (by omega), scells]
  congr 1
  simp [u32s]

theorem Sums.setEight {w : World} {b : Nat} {g r m : List Nat} {n : Nat} (h : Sums w b g r n) (hm : m.length = 8) :
    Sums ((((((((w.setCell ⟨b, 0, none⟩ (.int .u32 (at0 m 0 : Nat))).setCell ⟨b, 1, none⟩ (.int .u32 (at0 m 1 : Nat))).setCell ⟨b, 2, none⟩ (.int .u32 (at0 m 2 : Nat))).setCell ⟨b, 3, none⟩ (.int .u32 (at0 m 3 : Nat))).setCell ⟨b, 4, none⟩ (.int .u32 (at0 m 4 : Nat))).setCell ⟨b, 5, none⟩ (.int .u32 (at0 m 5 : Nat))).setCell ⟨b, 6, none⟩ (.int .u32 (at0 m 6 : Nat))).setCell ⟨b, 7, none⟩ (.int .u32 (at0 m 7 : Nat))) b m r n := by
  have h1 := ((((((((h.setOne 0 (at0 m 0) (by omega)).setOne 1 (at0 m 1) (by omega)).setOne 2 (at0 m 2) (by omega)).setOne 3 (at0 m 3) (by omega)).setOne 4 (at0 m 4) (by omega)).setOne 5 (at0 m 5) (by omega)).setOne 6 (at0 m 6) (by omega)).setOne 7 (at0 m 7) (by omega))
  have e : ((((((((g.set 0 (at0 m 0)).set 1 (at0 m 1)).set 2 (at0 m 2)).set 3 (at0 m 3)).set 4 (at0 m 4)).set 5 (at0 m 5)).set 6 (at0 m 6)).set 7 (at0 m 7)) = m := by
    obtain ⟨a, b, c, d, e, f, g', i, rfl⟩ := list8 g h.lg
    obtain ⟨a', b', c', d', e', f', g', i', rfl⟩ := list8 m hm
    rfl
  rw [e] at h1
  exact h1
theorem But.setEight {b : Nat} {w0 w : World} {m : List Nat} (h : But b w0 w) : But b w0 ((((((((w.setCell ⟨b, 0, none⟩ (.int .u32 (at0 m 0 : Nat))).setCell ⟨b, 1, none⟩ (.int .u32 (at0 m 1 : Nat))).setCell ⟨b, 2, none⟩ (.int .u32 (at0 m 2 : Nat))).setCell ⟨b, 3, none⟩ (.int .u32 (at0 m 3 : Nat))).setCell ⟨b, 4, none⟩ (.int .u32 (at0 m 4 : Nat))).setCell ⟨b, 5, none⟩ (.int .u32 (at0 m 5 : Nat))).setCell ⟨b, 6, none⟩ (.int .u32 (at0 m 6 : Nat))).setCell ⟨b, 7, none⟩ (.int .u32 (at0 m 7 : Nat))) :=
  (((((((h.setCell _ _).setCell _ _).setCell _ _).setCell _ _).setCell _ _).setCell _ _).setCell _ _).setCell _ _

def strLen : Value → Nat | .string s => s.size | _ => 0

theorem run_arro (T n : Nat) (hT : Tryd.prog.underlying T = some (.array n 5)) (g o p : Nat) (w : World) (h : p < n) :
    (Instr.sliceAt T (.pointer (some ⟨g, o, none⟩)) (some (.int .i64 (p : Int))) none none).run Tryd.prog w = .ok (.slice (some ⟨g, o + p, none⟩) (n - p) (n - p)) w := by
  have hs : (sizeOf 5).run Tryd.prog w = .ok 1 w := by kernel_rfl
  have a1 : (p : Int) ≤ (n : Int) := by omega
  have a2 : ¬ n = p := by omega
  simp [Instr.sliceAt, Instr.sureAddr, run_underlying hT, Instr.sliceBounds, run_sliceBound, a1, a2, Addr.add_lit]

theorem write_nil (s : ByteArray) (w : World) : Calls Tryd.prog 72 #[.pointer none, .string s] w fun e w' => e = .returned (.tuple #[]) ∧ w' = w := by
  go_enter Tryd.func72, Tryd.ntmps72
  go_wp2
  refine bodyPost_ret (results_none rfl _ _ _) rfl ?_
  exact ⟨rfl, rfl⟩

set_option maxHeartbeats 4000000 in
theorem write_any (b : Nat) (l : List Nat) (s : ByteArray) (w : World) (hL : Laid w) (hb : 2 ≤ b) (hS : Sums w b (grownP l) (restP l) l.length) (hl : Lt 256 l) (hz : l.length + s.size < 4611686018427387904) :
    Calls Tryd.prog 72 #[.pointer (some ⟨b, 0, none⟩), .string s] w fun e w' => e = .returned (.tuple #[]) ∧ Sums w' b (grownP (l ++ nums s)) (restP (l ++ nums s)) (l ++ nums s).length ∧ But b w w' := by
  have HL := hide1 hL
  have HS := hide1 hS
  have Hl := hide1 hl
  clear hL hS hl
  go_enter Tryd.func72, Tryd.ntmps72
  go_wp2
  go_loopw [1] (fun v wr => ∃ (t : List Nat) (sr : ByteArray), v = .string sr ∧ t ++ nums sr = l ++ nums s ∧ Sums wr b (grownP t) (restP t) t.length ∧ But b w wr) (fun v _ => strLen v)
  case atStart => exact ⟨l, s, rfl, rfl, HS.out, But.refl _ _⟩
  case round =>
    obtain ⟨t, sr, rfl, ht, hs, hB⟩ := hrel
    clear HS
    have Ht := hide1 ht
    have hlen : t.length + sr.size = l.length + s.size := by
      have := congrArg List.length ht
      rw [List.length_append, List.length_append, nums_length, nums_length] at this
      exact this
    clear ht
    by_cases h0 : sr.size = 0
    · have e0 : nums sr = [] := List.eq_nil_of_length_eq_zero (by rw [nums_length]; exact h0)
      have HS := hide1 hs
      have HB := hide1 hB
      have hE : Hid (t = l ++ nums s) := by
        show t = _
        rw [← Ht.out, e0, List.append_nil]
      clear hs hB e0
      have h0' : (sr.size : Int) = 0 := by omega
      go_wp2
      go_end0
      rw [← hE.out]
      exact ⟨rfl, HS.out, HB.out⟩
    · have h0' : (0 : Int) < (sr.size : Int) := by omega
      obtain ⟨n, hn⟩ : ∃ n, n = min sr.size (64 - t.length % 64) := ⟨_, rfl⟩
      obtain ⟨r, hr⟩ : ∃ r, r = t.length % 64 := ⟨_, rfl⟩
      have hH := fun w h => hide1 (held_any b t.length w (by omega) h)
      rw [← hr] at hn hH
      have hsl := fun w' => run_arro 103 64 Tryd.underlying103 b 8 r w' (by omega)
      have HS := hide1 hs
      have HB := hide1 hB
      have Hn := hide1 hn
      have Hr := hide1 hr
      have hr64 : r < 64 := by omega
      have ctk := hs.taken
      have hn1 : 1 ≤ n := by omega
      have hn2 : n ≤ sr.size := by omega
      have hn3 : r + n ≤ 64 := by omega
      have Hlen := hide1 hlen
      clear hs hB hn hr hlen
      go_wp2_with fail
      go_region_held3 (fun _ => True) (trivial)
        (first
          | (go_at_call 73; refine (hH wr.drew ctk).out.mono ?_; rintro e w1 ⟨rfl, rfl⟩)
          | (refine step_copy_text rfl (.tmp 15) (.tmp 16) 80 9 rfl 5 Tryd.underlying80 size5 b (8 + r) (64 - r) (64 - r) sr rfl rfl (scells (grownP t) (restP t) t.length) 105 HS.out.row n Hn.out (by rw [scells_length HS.out.lg HS.out.lr]; omega) ?_)
          | fail)
      have Hu : Hid (((nums sr).take n).length = n) := by
        show _ = n
        rw [List.length_take, nums_length]; omega
      have Hul := hide1 ((nums_lt sr).take n)
      have Hud : Hid (nums (sr.extract n sr.size) = (nums sr).drop n) := by
        show _ = _
        rw [nums_extract, List.take_of_length_le (by rw [List.length_drop, nums_length]; exact Nat.le_refl _)]
      have Hta : Hid ((nums sr).take n ++ (nums sr).drop n = nums sr) := List.take_append_drop _ _
      generalize (nums sr).take n = u at Hu Hul Hta
      generalize (nums sr).drop n = d at Hud Hta
      have y1 : Sums (wr.drew.setRow b (splice (scells (grownP t) (restP t) t.length) (8 + r) (u8s u)).toArray) b (grownP t) (midP t u) t.length := by
        have h1 := (HS.out.to (w' := wr.drew) rfl).setRest (h := r) (u := u) (by rw [Hu.out]; exact hn3)
        have h2 : splice (restP t) r u = midP t u := by rw [Hr.out]; exact splice_rest (by rw [← Hr.out, Hu.out]; exact hn3)
        rw [h2] at h1
        exact h1
      have y2 : But b w (wr.drew.setRow b (splice (scells (grownP t) (restP t) t.length) (8 + r) (u8s u)).toArray) := HB.out.drew.setRow _
      generalize World.setRow wr.drew b _ = Y at y1 y2
      have Y1 := hide1 y1
      have Y2 := hide1 y2
      have ytk := y1.taken
      have yfr := y1.free 72
      obtain ⟨T, hT⟩ : ∃ T, T = t.length + n := ⟨_, rfl⟩
      have eT : (t.length : Int) + (n : Int) = (T : Int) := by omega
      have hTb : (T : Int) < 4611686018427387904 := by have := Hlen.out; omega
      have wT : IntKind.u64.wrap (T : Int) = (T : Int) := by rw [IntKind.wrap_u64]; omega
      have HT := hide1 hT
      clear y1 y2 hT ctk hH hsl
      go_wp2_with fail
      generalize hZ : World.setCell _ _ _ = Z
      have z1 : Sums Z b (grownP t) (midP t u) T := by rw [← hZ]; exact Y1.out.setTaken T
      have z2 : But b w Z := by rw [← hZ]; exact Y2.out.setCell _ _
      have ztk := z1.taken
      have Z1 := hide1 z1
      have Z2 := hide1 z2
      have hH := hide1 (held_any b T Z (by omega) ztk)
      clear hZ z1 z2 ytk yfr
      by_cases hful : r + n = 64
      · have hq : T % 64 = 0 := by have := HT.out; have := Hr.out; omega
        rw [hq] at hH
        have Hful := hide1 hful
        clear hq hful
        refine hH.out.mono ?_
        rintro e w1 ⟨rfl, hw1⟩
        cases hw1
        go_wp2_with fail
        have hBy : By Z.drew 64 (some ⟨b, 8, none⟩) (midP t u) :=
          ⟨Z1.out.lr, fun j hj => ⟨b, 8, rfl, Z1.out.rest hj⟩⟩
        have HBy := hide1 hBy
        have hmid : Lt 256 (midP t u) := by
          have : Lt 256 (t ++ nums sr) := by rw [Ht.out]; exact Hl.out.app (nums_lt s)
          exact midP_lt (fun x hx => this x (List.mem_append.2 (.inl hx))) Hul.out
        have hG := hide1 (gather_any (midP t u) 64 64 (some ⟨b, 8, none⟩) Z.drew (by omega) (by omega) hBy hmid)
        have hF := fun (w : World) (h : Laid w) => hide1 (fold_any (grownP t) (wordsOf (midP t u)) w (grownP_length _) (wordsOf_length _) (grownP_lt _) (wordsOf_lt hmid) h)
        have HLZ := hide1 (HL.out.below (Z2.out.below (B := 2) hb HL.out.two) (Nat.le_refl _))
        have hlf : (foldP (grownP t) (wordsOf (midP t u))).length = 8 := addW_length _ _
        unfold arr32 at hG hF
        rw [lit8 (grownP_length t), lit8 hlf] at hF
        obtain ⟨⟨c0, c1, c2, c3, c4, c5, c6, c7⟩, _⟩ := Z1.out.eight
        have Hbl := hide1 Z1.out.lt
        have HM := hide1 hmid
        clear hBy hmid hlf
        go_region_with (first
          | (go_at_call 74; refine hG.out.mono ?_; rintro e w1 ⟨rfl, hb1⟩; have K1 : Hid (Below Z.heap.size Z w1) := (Below.refl _ _).drew.trans hb1; obtain ⟨⟨d0, d1, d2, d3, d4, d5, d6, d7⟩, _⟩ := (Z1.out.to (K1.out.block _ Hbl.out)).eight)
          | (go_at_call 75; refine (hF _ (HLZ.out.below K1.out (by have := Hbl.out; omega))).out.mono ?_; rintro e w2 ⟨rfl, hb2⟩; have K2 : Hid (Below Z.heap.size Z w2) := K1.out.trans (hb2.mono K1.out.size); obtain ⟨⟨q0, q1, q2, q3, q4, q5, q6, q7⟩, z0, z1, z2, z3, z4, z5, z6, z7⟩ := (Z1.out.to (K2.out.block _ Hbl.out)).eight)
          | fail)
        all_goals
          have y1 := (Z1.out.to (K2.out.block _ Hbl.out)).setEight (m := foldP (grownP t) (wordsOf (midP t u))) (addW_length _ _)
          have y2 := (Z2.out.trans (But.of K2.out)).setEight (m := foldP (grownP t) (wordsOf (midP t u)))
          generalize hV : World.setCell _ _ _ = V
          rw [hV] at y1 y2
          have V1 := hide1 y1
          have V2 := hide1 y2
          have hp : t.length % 64 + u.length = 64 := by rw [Hu.out, ← Hr.out]; exact Hful.out
          obtain ⟨m1, m2⟩ := mid_full hp
          have M1 := hide1 m1
          have M2 := hide1 m2
          clear hV y1 y2 hG hF m1 m2 hp hb1 hb2 c0 c1 c2 c3 c4 c5 c6 c7 d0 d1 d2 d3 d4 d5 d6 d7 q0 q1 q2 q3 q4 q5 q6 q7 z0 z1 z2 z3 z4 z5 z6 z7
          go_wp2_with (first | (refine wpList_store_at rfl 103 (.tmp 49) (.tmp 47) rfl b 8 rfl (u8s (zeros 64)) rfl 105 _ V1.out.row (by kernel_rfl) (by rw [scells_length V1.out.lg V1.out.lr]; simp [u8s, zeros]) (u8s_one _) rfl ?_) | fail)
          go_roundw
          case rel =>
            refine ⟨t ++ u, sr.extract n sr.size, rfl, ?_, ?_, ?_⟩
            · rw [Hud.out, List.append_assoc, Hta.out]; exact Ht.out
            · have h1 := V1.out.setRest (h := 0) (u := zeros 64) (by simp [zeros])
              have h2 : splice (midP t u) 0 (zeros 64) = zeros 64 := by
                simp [splice, zeros, V1.out.lr]
              rw [h2] at h1
              rw [List.length_append, Hu.out, ← HT.out, ← M1.out, ← M2.out]
              exact h1
            · exact V2.out.setRow _
          case measure => simp [strLen]; omega
      · have hq : T % 64 ≠ 0 := by have := HT.out; have := Hr.out; omega
        generalize T % 64 = hd at hH hq
        have hq' : ((hd : Int) == 0) = false := by rw [beq_eq_false_iff_ne]; omega
        have Hful := hide1 hful
        clear hq hful
        refine hH.out.mono ?_
        rintro e w1 ⟨rfl, hw1⟩
        cases hw1
        go_wp2_with fail
        go_roundw
        case rel =>
          have hp : t.length % 64 + u.length < 64 := by rw [Hu.out, ← Hr.out]; have := Hful.out; omega
          obtain ⟨m1, m2⟩ := mid_part hp
          refine ⟨t ++ u, sr.extract n sr.size, rfl, ?_, ?_, Z2.out⟩
          · rw [Hud.out, List.append_assoc, Hta.out]; exact Ht.out
          · have := Z1.out
            rw [m1, m2, HT.out] at this
            rw [List.length_append, Hu.out]
            exact this
        case measure => simp [strLen]; omega
end Go.Proofs.YtlkkninnfiaedaaDoor.Sh

namespace Go.Proofs.YtlkkninnfiaedaaDoor.Sh
open Go.RowKit
set_option maxRecDepth 100000
attribute [local go_sem] not_any

def padZ (n : Nat) : Nat := (119 - n % 64) % 64
def lenB (n k : Nat) : Nat := n * 8 / 2 ^ (8 * (7 - k)) % 256
def lenTo (n : Nat) : Nat → List Nat
  | 0 => []
  | k + 1 => lenTo n k ++ [lenB n k]
def padP (l : List Nat) : List Nat := l ++ 128 :: zeros (padZ l.length) ++ lenTo l.length 8

theorem nums_one (b : UInt8) : nums { data := #[b] } = [b.toNat] := rfl

/- bytes as a text -/
def txtFrom (r : ByteArray) (l : List Nat) : ByteArray := (l.map (fun n : Nat => (n : Int))).foldl (fun r n => r.push (UInt8.ofNat n.toNat)) r
def txt (l : List Nat) : ByteArray := txtFrom ByteArray.empty l
theorem nums_push (r : ByteArray) (n : Nat) (h : n < 256) : nums (r.push (UInt8.ofNat n)) = nums r ++ [n] := by
  obtain ⟨⟨a⟩⟩ := r
  simp [nums, ByteArray.push, Nat.mod_eq_of_lt h]
theorem nums_from : ∀ (l : List Nat) (r : ByteArray), Lt 256 l → nums (txtFrom r l) = nums r ++ l
  | [], r, _ => by simp [txtFrom]
  | n :: l, r, h => by
    have h1 : n < 256 := h n (List.mem_cons_self ..)
    have := nums_from l (r.push (UInt8.ofNat n)) (fun x hx => h x (List.mem_cons_of_mem _ hx))
    rw [nums_push r n h1, List.append_assoc] at this
    exact this
theorem nums_txt {l : List Nat} (h : Lt 256 l) : nums (txt l) = l := by
  rw [txt, nums_from l _ h]
  rfl
theorem conv_row {w : World} {g cap : Nat} {t : TypeId} {l : List Nat} (h : w.heap[g]? = some (row8 t l)) :
    (convert 80 9 (.slice (some ⟨g, 0, none⟩) l.length cap)).run Tryd.prog w = .ok (.string (txt l)) w := by
  rw [run_convert_bytes_string w 80 9 5 _ _ _ Tryd.underlying80 Tryd.underlying5 Tryd.underlying9]
  have hl := run_loadCells_list (P := Tryd.prog) w ⟨g, 0, none⟩ (u8s l) (fun j v hv => by
    rw [Addr.add_lit, Nat.zero_add, cell_of_row w g j _ t (0, 0) h]
    simpa using hv)
  rw [u8s_length] at hl
  have e : u8s l = (l.map (fun n : Nat => (n : Int))).map (Value.int .u8) := by simp [u8s]
  rw [e] at hl
  exact run_bytesToString w _ _ _ _ hl

theorem nums_size {p : ByteArray} {l : List Nat} (h : nums p = l) : p.size = l.length := by rw [← h, nums_length]

def PadPost (s : ByteArray) (w : World) (e : Ending) (w' : World) : Prop := ∃ p, e = .returned (.string p) ∧ nums p = padP (nums s) ∧ Below w.heap.size w w'

set_option maxHeartbeats 2000000 in
theorem padded_any (s : ByteArray) (w : World) (hz : s.size ≤ 4096) : Calls Tryd.prog 78 #[.string s] w (PadPost s w) := by
  have z1 : ¬ (9223372036854775807 < s.size + 1) := by omega
  go_enter Tryd.func78, Tryd.ntmps78
  go_wp2
  go_loop [4] (fun v => ∃ (j : Nat) (o : ByteArray), j ≤ padZ s.size ∧ v = .string o ∧ Shy (nums o = nums s ++ 128 :: zeros j)) (fun v => s.size + 65 - strLen v)
  case atStart => exact ⟨0, _, Nat.zero_le _, rfl, ⟨by rw [nums_append]; rfl⟩⟩
  case round =>
    obtain ⟨j, o, hj, rfl, ho⟩ := hrel
    have hsz : o.size = s.size + 1 + j := by
      rw [nums_size ho.out, List.length_append, List.length_cons, nums_length, zeros_length]; omega
    have hj64 : j < 64 := Nat.lt_of_le_of_lt hj (Nat.mod_lt _ (by omega))
    have HS : Shy (o.size = s.size + 1 + j) := ⟨hsz⟩
    have hos : o.size ≤ 4200 := by omega
    have hpz : padZ s.size = (119 - s.size % 64) % 64 := rfl
    by_cases hlt : j < padZ s.size
    · have hb : ((o.size : Int) % 64 != 56) = true := by rw [bne_iff_ne]; omega
      have z2 : ¬ (9223372036854775807 < o.size + 1) := by omega
      clear hsz hpz
      go_wp2
      go_round
      case rel => exact ⟨j + 1, _, hlt, rfl, ⟨by rw [nums_append, ho.out, List.append_assoc, List.cons_append, show nums { data := #[0] } = zeros 1 from rfl, zeros, zeros, List.replicate_append_replicate]; rfl⟩⟩
      case measure =>
        have h1 := HS.out
        have h2 : padZ s.size < 64 := Nat.mod_lt _ (by omega)
        show s.size + 65 - (o ++ { data := #[0] }).size < s.size + 65 - o.size
        rw [ByteArray.size_append, h1]
        show s.size + 65 - (s.size + 1 + j + 1) < _
        omega
    · have hje : j = padZ s.size := by omega
      have hb : ((o.size : Int) % 64 != 56) = false := by rw [bne_eq_false_iff_eq]; omega
      have HE : Shy (nums o = nums s ++ 128 :: zeros (padZ s.size)) := ⟨by rw [← hje]; exact ho.out⟩
      clear hsz hpz hje hj ho HS
      go_wp2
      go_loopw [4, 5] (fun v4 v5 wr => ∃ (k : Nat) (p : ByteArray), k ≤ 8 ∧ v5 = .int .i64 (7 - (k : Int)) ∧ v4 = .string p ∧ Shy (nums p = nums o ++ lenTo s.size k) ∧ Below w.heap.size w wr) (fun _ v5 _ => (intOf v5 + 1).toNat)
      case atStart => exact ⟨0, o, Nat.zero_le _, rfl, rfl, ⟨by simp [lenTo]⟩, Below.refl _ _⟩
      case round =>
        obtain ⟨k, p, hk, rfl, rfl, hp, hbe⟩ := hrel
        have HB := hide1 hbe
        clear hbe
        have hps : p.size ≤ 4300 := by
          rw [nums_size hp.out, List.length_append, nums_length]
          have : (lenTo s.size k).length ≤ 8 := by
            have e : ∀ m, (lenTo s.size m).length = m := by
              intro m
              induction m with
              | zero => rfl
              | succ m ih => rw [lenTo, List.length_append, ih]; rfl
            rw [e]; exact hk
          omega
        by_cases hlt : k < 8
        · obtain ⟨m, hm⟩ : ∃ m, m = 7 - k := ⟨_, rfl⟩
          have em : 7 - (k : Int) = (m : Int) := by omega
          rw [em]
          obtain ⟨q, hq⟩ : ∃ q, q = 8 * m := ⟨_, rfl⟩
          have eq : 8 * (m : Int) = (q : Int) := by omega
          obtain ⟨n8, hn8⟩ : ∃ n8, n8 = s.size * 8 := ⟨_, rfl⟩
          have en8 : 8 * (s.size : Int) = (n8 : Int) := by omega
          have hq56 : (q : Int) ≤ 56 := by omega
          have hn8b : (n8 : Int) ≤ 32768 := by omega
          have z3 : ¬ (9223372036854775807 < p.size + 1) := by omega
          have Hm : Shy (m = 7 - k) := ⟨hm⟩
          have HQ : Shy (q = 8 * m) := ⟨hq⟩
          have Hn8 : Shy (n8 = s.size * 8) := ⟨hn8⟩
          clear hm hq hn8 em
          obtain ⟨z, hz'⟩ : ∃ z, z = n8 / 2 ^ q % 256 := ⟨_, rfl⟩
          have ez : (n8 : Int) / 2 ^ q % 256 = (z : Int) := by
            rw [hz', Int.natCast_emod, Int.natCast_ediv, Int.natCast_pow]; rfl
          have HZ : Shy (lenB s.size k = z) := ⟨by rw [hz', HQ.out, Hn8.out, lenB, Hm.out]⟩
          have hz256 : z < 256 := by rw [hz']; exact Nat.mod_lt _ (by omega)
          have hcv : ∀ v : World, (convert 80 9 (.slice (some ⟨v.heap.size, 0, none⟩) 1 1)).run Tryd.prog (v.alloc (.cells #[Value.int .u8 (z : Int)] 5)) = .ok (.string (txt [z])) (v.alloc (.cells #[Value.int .u8 (z : Int)] 5)) :=
            fun v => conv_row (l := [z]) (heap_alloc_new v (row8 5 [z]))
          have HT : Shy (nums (txt [z]) = [z]) := ⟨nums_txt (lt_one hz256)⟩
          have hts : (txt [z]).size = 1 := by rw [nums_size HT.out]; rfl
          generalize txt [z] = tz at hcv HT hts
          clear hz'
          go_wp2
          go_roundw
          case rel =>
            refine ⟨k + 1, _, by omega, by have := Hm.out; congr 1; omega, rfl, ⟨by rw [nums_append, hp.out, HT.out, lenTo, HZ.out, List.append_assoc]⟩, HB.out.alloc HB.out.size _⟩
          case measure => simp [intOf]
        · have : k = 8 := by omega
          subst this
          have e8 : 7 - ((8 : Nat) : Int) = -1 := rfl
          rw [e8]
          go_wp2
          go_ret
          refine ⟨p, rfl, ?_, HB.out⟩
          rw [hp.out, HE.out, padP, nums_length]
end Go.Proofs.YtlkkninnfiaedaaDoor.Sh
