/- LinkFair: what comes is what was sent, whatever happens. -/
import Derived.Test.YtcadlcpccemkbaaEk
namespace Go.Proofs.Ytcadlcpccemkbaa
open Go.RowKit
set_option maxRecDepth 100000
attribute [local go_sem] not_any

/- what happens, in memory -/
def Mvs (W : World) (len : Nat) (a : Option Addr) : Prop := ∀ j, j < len → ∃ g o kind who, ∃ pick : Nat, ∃ body, a = some ⟨g, o, none⟩ ∧ pick < 256 ∧ W.cell? ⟨g, o + j * 4, none⟩ = some (.int .i64 kind) ∧ W.cell? ⟨g, o + j * 4 + 1, none⟩ = some (.int .i64 who) ∧ W.cell? ⟨g, o + j * 4 + 2, none⟩ = some (.int .u8 (pick : Int)) ∧ W.cell? ⟨g, o + j * 4 + 3, none⟩ = some (.string body)
theorem Mvs.below {W W' : World} {len : Nat} {a : Option Addr} (h : Mvs W len a) (hb : Below W.heap.size W W') : Mvs W' len a := fun j hj => by
  obtain ⟨g, o, kind, who, pick, body, e, hp, c0, c1, c2, c3⟩ := h j hj
  have hg : g < W.heap.size := World.block_lt_of_cell? W _ c0
  exact ⟨g, o, kind, who, pick, body, e, hp, (hb.cell (p := ⟨g, _, none⟩) hg).trans c0, (hb.cell (p := ⟨g, _, none⟩) hg).trans c1, (hb.cell (p := ⟨g, _, none⟩) hg).trans c2, (hb.cell (p := ⟨g, _, none⟩) hg).trans c3⟩

/- something happens -/
def Mvd (B e n N : Nat) (w0 w : World) : Prop := ∃ S p vl Fp, Em B e p vl Fp n S w ∧ Below B w0 w ∧ Wld N S
theorem move_any {N B e n : Nat} {p : Nat → Nat} {vl : Nat → Value} {Fp : Nat → Nat → Prop} {S : Es} {w : World} (h : Em B e p vl Fp n S w) (hS : Wld N S) (hN : N + 2000 < 900000) (hn : n < 1000000) (kind who : Int) (pick : Nat) (hpk : pick < 256) (body : ByteArray) (hbd : body.size ≤ 100) :
    Calls Try.prog 6 #[.pointer (some ⟨e, 0, none⟩), .agg #[.int .i64 kind, .int .i64 who, .int .u8 (pick : Int), .string body]] w fun x w' => x = .returned (.bool true) ∧ Mvd B e (n + 1) (N + 16) w w' := by
  have fin : ∀ S', Wld (N + 16) S' → ∀ (x : Ending) (w' : World), (x = .returned (.bool true) ∧ Ebx B e (n + 1) S' w w') → x = .returned (.bool true) ∧ Mvd B e (n + 1) (N + 16) w w' := fun S' hS' x w' hh => by
    obtain ⟨h1, p', vl', Fp', h2, h3⟩ := hh
    exact ⟨h1, S', p', vl', Fp', h2, h3, hS'⟩
  have hN1 : N + 1000 < 4294967296 := by omega
  have hm := fun {S'} (h : Wld N S') => h.mono (N' := N + 16) (by omega)
  rcases (show who % 2 = 0 ∨ who % 2 = 1 by omega) with hw | hw
  · rcases (show kind = 0 ∨ kind = 1 ∨ kind = 2 ∨ kind = 3 ∨ kind = 4 ∨ kind = 5 ∨ (kind < 0 ∨ 5 < kind) by omega) with rfl | rfl | rfl | rfl | rfl | rfl | hk
    · exact (move0_0 h hS.ok hN hn who pick hpk body hw hbd).mono (fin _ (hS.mv0_0 hN body))
    · exact (move1_0 h hS.ok hN1 hn who pick hpk body hw hbd).mono (fin _ (hm (hS.mv1_0 hN1)))
    · exact (move2_0 h hS.ok hN hn who pick hpk body hw hbd).mono (fin _ (hS.mv2_0 hN pick))
    · exact (move3_0 h hS.ok hN1 hn who pick hpk body hw hbd).mono (fin _ (hm (hS.mv3_0 pick)))
    · exact (move4_0 h hS.ok hN1 hn who pick hpk body hw hbd).mono (fin _ (hm (hS.mv4_0 pick)))
    · exact (move5_0 h hS.ok hN1 hn who pick hpk body hw hbd).mono (fin _ (hS.mv5_0 hN))
    · exact (moveN_0 h hS.ok hN1 hn kind who hk pick hpk body hw hbd).mono (fin _ (hm hS))
  · rcases (show kind = 0 ∨ kind = 1 ∨ kind = 2 ∨ kind = 3 ∨ kind = 4 ∨ kind = 5 ∨ (kind < 0 ∨ 5 < kind) by omega) with rfl | rfl | rfl | rfl | rfl | rfl | hk
    · exact (move0_1 h hS.ok hN hn who pick hpk body hw hbd).mono (fin _ (hS.mv0_1 hN body))
    · exact (move1_1 h hS.ok hN1 hn who pick hpk body hw hbd).mono (fin _ (hm (hS.mv1_1 hN1)))
    · exact (move2_1 h hS.ok hN hn who pick hpk body hw hbd).mono (fin _ (hS.mv2_1 hN pick))
    · exact (move3_1 h hS.ok hN1 hn who pick hpk body hw hbd).mono (fin _ (hm (hS.mv3_1 pick)))
    · exact (move4_1 h hS.ok hN1 hn who pick hpk body hw hbd).mono (fin _ (hm (hS.mv4_1 pick)))
    · exact (move5_1 h hS.ok hN1 hn who pick hpk body hw hbd).mono (fin _ (hS.mv5_1 hN))
    · exact (moveN_1 h hS.ok hN1 hn kind who hk pick hpk body hw hbd).mono (fin _ (hm hS))

/- both ends new -/
def S0 : Es := ⟨fun _ => Ls.new 1, fun _ => []⟩
theorem wld0 (N : Nat) (hN : 1 ≤ N) : Wld N S0 := by
  have hp : Pr (Ls.new 1) (Ls.new 1) [] [] [] := ⟨Nat.zero_le _, fun t ht => by simp at ht, fun e => by change 0 = 1 at e; omega⟩
  have hs : Sn (Ls.new 1) [] := ⟨Nat.le_refl _, rfl⟩
  have ho : (Ls.new 1).Ok N := Ls.Ok.new (by decide) (by decide) _
  exact ⟨ho, ho, hN, hN, Nat.zero_le _, Nat.zero_le _, Nat.zero_le _, Nat.zero_le _, Nat.zero_le _, Nat.zero_le _, hp, hp, hs, hs⟩
theorem lf0 (s g : Nat) : Lf s (.slice none 0 0) (.map none) (.slice none 0 0) g ↔ g = s := by
  constructor
  · rintro (h | h | h | h)
    · exact h
    · cases h
    · cases h
    · cases h
  · exact fun h => .inl h
theorem em0 {B e s0 s1 : Nat} {w : World} (h0 : Lkm B s0 (.slice none 0 0) (.map none) (.slice none 0 0) 0 (Ls.new 1) w) (h1 : Lkm B s1 (.slice none 0 0) (.map none) (.slice none 0 0) 0 (Ls.new 1) w) (hB : B ≤ e) (h01 : s0 ≠ s1) (h0e : s0 ≠ e) (h1e : s1 ≠ e)
    (hr : w.heap[e]? = some (.cells #[.pointer (some ⟨s0, 0, none⟩), .pointer (some ⟨s1, 0, none⟩), .slice none 0 0, .slice none 0 0, .slice none 0 0, .slice none 0 0, .slice none 0 0, .slice none 0 0, .int .u32 0, .int .u32 0, .int .u32 0, .int .u32 0, .bool false] 36 (0, 0))) :
    Em B e (fun i => if i = 0 then s0 else s1) (fun _ => .slice none 0 0) (fun i g => (i = 0 ∧ g = s0) ∨ (i = 1 ∧ g = s1) ∨ (i = 8 ∧ g = e)) 0 S0 w := by
  refine ⟨hr, fun i hi => ?_, fun i h2 h8 => ⟨Lst.nil _ _, fun g => ⟨fun h => by omega, fun h => by cases h⟩⟩, fun g => by omega, fun a b ha hb hab g hg e' => by omega, hB⟩
  rcases (show i = 0 ∨ i = 1 by omega) with rfl | rfl
  · exact ⟨_, _, _, h0, fun g => by rw [show (if 0 = 0 then s0 else s1) = s0 from rfl, lf0]; omega⟩
  · exact ⟨_, _, _, h1, fun g => by rw [show (if 1 = 0 then s0 else s1) = s1 from rfl, lf0]; omega⟩

set_option maxHeartbeats 4000000 in
theorem fair_all (w : World) (a : Option Addr) (len cap : Nat) (h : Mvs w len a) :
    Calls Try.prog 3 #[.slice a len cap] w fun e w' => e = .returned (.bool true) ∧ Below w.heap.size w w' := by
  have HM := hide1 h
  have kA := fun w => hide1 (awake_any w)
  have kN := fun w => hide1 (lnew_any 1 (by decide) w)
  clear h
  go_enter Try.func3, Try.ntmps3
  go_wp2_with fail
  refine (kN _).out.mono ?_
  rintro x9 W1 ⟨rfl, M1, B1⟩
  obtain ⟨s0, hs0⟩ : ∃ s, w.heap.size = s := ⟨_, rfl⟩
  have HS0 := hide1 hs0
  rw [hs0] at M1 ⊢
  have HM1 := hide1 M1
  have HB1 := hide1 B1
  clear M1 B1 hs0
  go_wp2_with fail
  refine (kN _).out.mono ?_
  rintro x9 W2 ⟨rfl, M2, B2⟩
  have HM0 := hide1 (HM1.out.below B2 (Nat.le_refl _))
  have HM2 : Hid (Lkm s0 W1.heap.size (.slice none 0 0) (.map none) (.slice none 0 0) 0 (Ls.new 1) W2) := Lkm.fresh s0 (by have := lt_heap HM1.out.row; omega) rfl rfl rfl M2.row
  have HNE : Hid (s0 < W1.heap.size) := lt_heap HM1.out.row
  have HB2 : Hid (Below s0 w W2) := by
    have h1 := HB1.out
    rw [HS0.out] at h1
    exact h1.trans (B2.mono (by have := lt_heap HM1.out.row; omega))
  obtain ⟨s1, hs1⟩ : ∃ s, W1.heap.size = s := ⟨_, rfl⟩
  rw [hs1] at HM2 HNE ⊢
  clear M2 B2 HM1 HB1 hs1 kN
  go_upto_region 6 with (fail)
  generalize hX : World.alloc W2 _ = W3
  have b23 : Hid (Below W2.heap.size W2 W3) := by rw [← hX]; exact below1 _
  have RE := hide1 (hX ▸ heap_alloc_new W2 _)
  obtain ⟨e, he⟩ : ∃ g, W2.heap.size = g := ⟨_, rfl⟩
  have HLT : Hid (s0 < e ∧ s1 < e) := ⟨by have := lt_heap HM0.out.row; omega, by have := lt_heap HM2.out.row; omega⟩
  rw [he] at RE ⊢
  have E3 : Hid (Em s0 e (fun i => if i = 0 then s0 else s1) (fun _ => .slice none 0 0) (fun i g => (i = 0 ∧ g = s0) ∨ (i = 1 ∧ g = s1) ∨ (i = 8 ∧ g = e)) 0 S0 W3) :=
    em0 (HM0.out.below b23.out (Nat.le_refl _)) (HM2.out.below b23.out (Nat.le_refl _)) (by have := HLT.out; omega) (by have := HNE.out; omega) (by have := HLT.out; omega) (by have := HLT.out; omega) RE.out
  have HB3 : Hid (Below s0 w W3) := HB2.out.trans (b23.out.mono (by have := lt_heap HM0.out.row; omega))
  clear hX he b23 RE HM0 HM2 HB2
  go_wp2_with fail
  go_loopw [8] (fun i wr => ∃ j : Nat, j ≤ 120 ∧ i = .int .i64 (j : Int) ∧ Mvd s0 e j (16 * j + 16) w wr) (fun i _ => 200 - (intOf i).toNat)
  case atStart => exact ⟨0, by omega, rfl, S0, _, _, _, E3.out, HB3.out, wld0 _ (by omega)⟩
  case round =>
    obtain ⟨j, hj, rfl, S, p, vl, Fp, hE, hB, hW⟩ := hrel
    have HE := hide1 hE
    have HB := hide1 hB
    have HW := hide1 hW
    clear hE hB hW
    by_cases hjl : j < len
    · have gin : (j : Int) < (len : Int) := by omega
      by_cases hj120 : j < 120
      · have gin2 : (j : Int) < 120 := by omega
        obtain ⟨g, o, kind, who, pick, body, rfl, hpk, c0, c1, c2, c3⟩ := HM.out.below (HS0.out ▸ HB.out) j hjl
        by_cases hbd : body.size ≤ 100
        · have hbi : ¬ (100 : Int) < (body.size : Int) := by omega
          have kM := hide1 (move_any HE.out HW.out (by omega) (by omega) kind who pick hpk body hbd)
          clear hbd hpk
          go_wp2_with fail
          refine kM.out.mono ?_
          rintro x9 W5 ⟨rfl, S5, p5, vl5, Fp5, E5, B5, D5⟩
          have kF := hide1 (fair_any E5 D5 (by omega))
          have HE5 := hide1 E5
          have HB5 := hide1 (HB.out.trans B5)
          have HD5 := hide1 D5
          clear kM E5 B5 D5 c0 c1 c2 c3
          go_wp2_with fail
          refine kF.out.mono ?_
          rintro x9 W6 ⟨rfl, hb6⟩
          have E6 := hide1 (HE5.out.below hb6 (Nat.le_refl _))
          have B6 := hide1 (HB5.out.trans (hb6.mono HE5.out.hB))
          clear kF hb6
          go_wp2
          go_roundw
          case rel => exact ⟨j + 1, by omega, by go_num, S5, p5, vl5, Fp5, E6.out, B6.out, HD5.out.mono (by omega)⟩
          case measure => simp [intOf]; omega
        · have hbi : (100 : Int) < (body.size : Int) := by omega
          clear hbd hpk
          go_wp2
          go_roundw
          case rel => exact ⟨j + 1, by omega, by go_num, S, p, vl, Fp, HE.out.mono (Nat.le_succ j), HB.out, HW.out.mono (by omega)⟩
          case measure => simp [intOf]; omega
      · have gin2 : ¬ (j : Int) < 120 := by omega
        go_wp2_with (go_at_call 8; refine (kA _).out.mono ?_; rintro x9 W9 ⟨rfl, hb9⟩)
        go_ret
        exact ⟨rfl, HS0.out ▸ HB.out.trans (hb9.mono HE.out.hB)⟩
    · have gin : ¬ (j : Int) < (len : Int) := by omega
      go_wp2_with (go_at_call 8; refine (kA _).out.mono ?_; rintro x9 W9 ⟨rfl, hb9⟩)
      go_ret
      exact ⟨rfl, HS0.out ▸ HB.out.trans (hb9.mono HE.out.hB)⟩

end Go.Proofs.Ytcadlcpccemkbaa
