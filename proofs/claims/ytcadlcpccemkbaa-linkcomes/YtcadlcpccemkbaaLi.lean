/- LinkComes: all that waits comes. -/
import Derived.Test.YtcadlcpccemkbaaMLgLh
import Derived.Test.YtcadlcpccemkbaaEl
import Derived.Deep.CutRange
namespace Go.Proofs.Ytcadlcpccemkbaa
open Go.RowKit
set_option maxRecDepth 100000
attribute [local go_sem] not_any

def Mvw (B e n N : Nat) (w0 w : World) : Prop := ∃ S p vl Fp, Em B e p vl Fp n S w ∧ Below B w0 w ∧ Wm N S
theorem movew_any {N B e n : Nat} {p : Nat → Nat} {vl : Nat → Value} {Fp : Nat → Nat → Prop} {S : Es} {w : World} (h : Em B e p vl Fp n S w) (hS : Wm N S) (hN : N + 2000 < 900000) (hn : n < 1000000) (kind who : Int) (pick : Nat) (hpk : pick < 256) (body : ByteArray) (hbd : body.size ≤ 100) :
    Calls Try.prog 6 #[.pointer (some ⟨e, 0, none⟩), .agg #[.int .i64 kind, .int .i64 who, .int .u8 (pick : Int), .string body]] w fun x w' => x = .returned (.bool true) ∧ Mvw B e (n + 1) (N + 16) w w' := by
  have fin : ∀ S', Wm (N + 16) S' → ∀ (x : Ending) (w' : World), (x = .returned (.bool true) ∧ Ebx B e (n + 1) S' w w') → x = .returned (.bool true) ∧ Mvw B e (n + 1) (N + 16) w w' := fun S' hS' x w' hh => by
    obtain ⟨h1, p', vl', Fp', h2, h3⟩ := hh
    exact ⟨h1, S', p', vl', Fp', h2, h3, hS'⟩
  have hN1 : N + 1000 < 4294967296 := by omega
  have hm := fun {S'} (h : Wm N S') => h.mono (N' := N + 16) (by omega)
  have hO := hS.w.ok
  rcases (show who % 2 = 0 ∨ who % 2 = 1 by omega) with hw | hw
  · rcases (show kind = 0 ∨ kind = 1 ∨ kind = 2 ∨ kind = 3 ∨ kind = 4 ∨ kind = 5 ∨ (kind < 0 ∨ 5 < kind) by omega) with rfl | rfl | rfl | rfl | rfl | rfl | hk
    · exact (move0_0 h hO hN hn who pick hpk body hw hbd).mono (fin _ (hS.mv0_0 hN body))
    · exact (move1_0 h hO hN1 hn who pick hpk body hw hbd).mono (fin _ (hm (hS.mv1_0 hN1)))
    · exact (move2_0 h hO hN hn who pick hpk body hw hbd).mono (fin _ (hS.mv2_0 hN pick))
    · exact (move3_0 h hO hN1 hn who pick hpk body hw hbd).mono (fin _ (hm (hS.mv3_0 pick)))
    · exact (move4_0 h hO hN1 hn who pick hpk body hw hbd).mono (fin _ (hm (hS.mv4_0 pick)))
    · exact (move5_0 h hO hN1 hn who pick hpk body hw hbd).mono (fin _ (hS.mv5_0 hN))
    · exact (moveN_0 h hO hN1 hn kind who hk pick hpk body hw hbd).mono (fin _ (hm hS))
  · rcases (show kind = 0 ∨ kind = 1 ∨ kind = 2 ∨ kind = 3 ∨ kind = 4 ∨ kind = 5 ∨ (kind < 0 ∨ 5 < kind) by omega) with rfl | rfl | rfl | rfl | rfl | rfl | hk
    · exact (move0_1 h hO hN hn who pick hpk body hw hbd).mono (fin _ (hS.mv0_1 hN body))
    · exact (move1_1 h hO hN1 hn who pick hpk body hw hbd).mono (fin _ (hm (hS.mv1_1 hN1)))
    · exact (move2_1 h hO hN hn who pick hpk body hw hbd).mono (fin _ (hS.mv2_1 hN pick))
    · exact (move3_1 h hO hN1 hn who pick hpk body hw hbd).mono (fin _ (hm (hS.mv3_1 pick)))
    · exact (move4_1 h hO hN1 hn who pick hpk body hw hbd).mono (fin _ (hm (hS.mv4_1 pick)))
    · exact (move5_1 h hO hN1 hn who pick hpk body hw hbd).mono (fin _ (hS.mv5_1 hN))
    · exact (moveN_1 h hO hN1 hn kind who hk pick hpk body hw hbd).mono (fin _ (hm hS))
theorem wm0 (N : Nat) (hN : 1 ≤ N) : Wm N S0 := by
  have hp : Mu (Ls.new 1) (Ls.new 1) [] := ⟨fun e => (by cases e), fun e => by change 0 = 1 at e; omega, fun t ht => by simp at ht⟩
  exact ⟨wld0 N hN, hp, hp⟩
/- after c calls of move at the most -/
def At (s0 e : Nat) (w : World) (c : Nat) (S : Es) (wr : World) : Prop := ∃ p vl Fp, Em s0 e p vl Fp c S wr ∧ Below s0 w wr ∧ Wm (16 * c + 16) S

theorem Em.cells {B e n : Nat} {p : Nat → Nat} {vl : Nat → Value} {Fp : Nat → Nat → Prop} {S : Es} {X : World} (h : Em B e p vl Fp n S X) : X.cell? ⟨e, 0, none⟩ = some (.pointer (some ⟨p 0, 0, none⟩)) ∧ X.cell? ⟨e, 1, none⟩ = some (.pointer (some ⟨p 1, 0, none⟩)) ∧ X.cell? ⟨e, 4, none⟩ = some (vl 4) ∧ X.cell? ⟨e, 5, none⟩ = some (vl 5) ∧ X.cell? ⟨e, 6, none⟩ = some (vl 6) ∧ X.cell? ⟨e, 7, none⟩ = some (vl 7) := by
  obtain ⟨⟨c0, c1, _, _⟩, ⟨c4, c5, c6, c7⟩, _⟩ := box13 h.row
  exact ⟨c0, c1, c4, c5, c6, c7⟩
theorem At.ways {s0 e c : Nat} {w X : World} {S : Es} (h : At s0 e w c S X) : ∃ a2 c2 a3 c3, X.cell? ⟨e, 2, none⟩ = some (.slice a2 (S.ls 2).length c2) ∧ X.cell? ⟨e, 3, none⟩ = some (.slice a3 (S.ls 3).length c3) ∧ (S.ls 2).length ≤ 60 ∧ (S.ls 3).length ≤ 60 := by
  obtain ⟨p, vl, Fp, hE, _, hW⟩ := h
  have hr := hE.row
  obtain ⟨a2, c2, h2⟩ := (hE.ls 2 (by omega) (by omega)).1.form
  obtain ⟨a3, c3, h3⟩ := (hE.ls 3 (by omega) (by omega)).1.form
  rw [h2, h3] at hr
  obtain ⟨⟨_, _, w2, w3⟩, _, _⟩ := box13 hr
  exact ⟨a2, c2, a3, c3, w2, w3, hW.w.w2, hW.w.w3⟩
theorem At.step {s0 e c : Nat} {w X : World} {S S' : Es} (h : At s0 e w c S X) (hW : Wm (16 * (c + 1) + 16) S') {x : Ending} {w' : World} (hh : x = .returned (.bool true) ∧ Ebx s0 e (c + 1) S' X w') : x = .returned (.bool true) ∧ At s0 e w (c + 1) S' w' := by
  obtain ⟨h1, p', vl', Fp', h2, h3⟩ := hh
  obtain ⟨p, vl, Fp, hE, hB, _⟩ := h
  exact ⟨h1, p', vl', Fp', h2, hB.trans h3, hW⟩
theorem At.take0 {s0 e c : Nat} {w X : World} {S : Es} (h : At s0 e w c S X) (hc : c ≤ 50000) :
    Calls Try.prog 6 #[.pointer (some ⟨e, 0, none⟩), .agg #[.int .i64 2, .int .i64 0, .int .u8 0, .string ⟨#[]⟩]] X fun x w' => x = .returned (.bool true) ∧ At s0 e w (c + 1) (S.mv2 0 0) w' := by
  have h' := h
  obtain ⟨p, vl, Fp, hE, hB, hW⟩ := h'
  exact (move2_0 hE hW.w.ok (by omega) (by omega) 0 0 (by decide) ⟨#[]⟩ (by decide) (by decide)).mono fun x w' hh => h.step ((hW.mv2_0 (by omega) 0).mono (by omega)) hh
theorem At.tick0 {s0 e c : Nat} {w X : World} {S : Es} (h : At s0 e w c S X) (hc : c ≤ 50000) :
    Calls Try.prog 6 #[.pointer (some ⟨e, 0, none⟩), .agg #[.int .i64 1, .int .i64 0, .int .u8 0, .string ⟨#[]⟩]] X fun x w' => x = .returned (.bool true) ∧ At s0 e w (c + 1) (S.mv1 0) w' := by
  have h' := h
  obtain ⟨p, vl, Fp, hE, hB, hW⟩ := h'
  exact (move1_0 hE hW.w.ok (by omega) (by omega) 0 0 (by decide) ⟨#[]⟩ (by decide) (by decide)).mono fun x w' hh => h.step ((hW.mv1_0 (by omega)).mono (by omega)) hh
theorem At.take1 {s0 e c : Nat} {w X : World} {S : Es} (h : At s0 e w c S X) (hc : c ≤ 50000) :
    Calls Try.prog 6 #[.pointer (some ⟨e, 0, none⟩), .agg #[.int .i64 2, .int .i64 1, .int .u8 0, .string ⟨#[]⟩]] X fun x w' => x = .returned (.bool true) ∧ At s0 e w (c + 1) (S.mv2 1 0) w' := by
  have h' := h
  obtain ⟨p, vl, Fp, hE, hB, hW⟩ := h'
  exact (move2_1 hE hW.w.ok (by omega) (by omega) 1 0 (by decide) ⟨#[]⟩ (by decide) (by decide)).mono fun x w' hh => h.step ((hW.mv2_1 (by omega) 0).mono (by omega)) hh
theorem At.tick1 {s0 e c : Nat} {w X : World} {S : Es} (h : At s0 e w c S X) (hc : c ≤ 50000) :
    Calls Try.prog 6 #[.pointer (some ⟨e, 0, none⟩), .agg #[.int .i64 1, .int .i64 1, .int .u8 0, .string ⟨#[]⟩]] X fun x w' => x = .returned (.bool true) ∧ At s0 e w (c + 1) (S.mv1 1) w' := by
  have h' := h
  obtain ⟨p, vl, Fp, hE, hB, hW⟩ := h'
  exact (move1_1 hE hW.w.ok (by omega) (by omega) 1 0 (by decide) ⟨#[]⟩ (by decide) (by decide)).mono fun x w' hh => h.step ((hW.mv1_1 (by omega)).mono (by omega)) hh
set_option maxHeartbeats 8000000 in
theorem comes_all (w : World) (a : Option Addr) (len cap : Nat) (h : Mvs w len a) :
    Calls Try.prog 4 #[.slice a len cap] w fun e w' => e = .returned (.bool true) ∧ Below w.heap.size w w' := by
  have HM := hide1 h
  have kAw := fun w => hide1 (awake_any w)
  have kN := fun w => hide1 (lnew_any 1 (by decide) w)
  clear h
  go_enter Try.func4, Try.ntmps4
  go_wp2_with fail
  refine (kN _).out.mono ?_
  rintro x9 W1 ⟨rfl, M1, B1⟩
  obtain ⟨s0, hs0⟩ : ∃ s, w.heap.size = s := ⟨_, rfl⟩
  have HS0 := hide1 hs0
  rw [hs0] at M1 ⊢
  have HM1 := hide1 M1
  have HB1 := hide1 B1
  clear M1 B1 hs0
  go_wp2_with fail
  refine (kN _).out.mono ?_
  rintro x9 W2 ⟨rfl, M2, B2⟩
  have HM0 := hide1 (HM1.out.below B2 (Nat.le_refl _))
  have HM2 : Hid (Lkm s0 W1.heap.size (.slice none 0 0) (.map none) (.slice none 0 0) 0 (Ls.new 1) W2) := Lkm.fresh s0 (by have := lt_heap HM1.out.row; omega) rfl rfl rfl M2.row
  have HNE : Hid (s0 < W1.heap.size) := lt_heap HM1.out.row
  have HB2 : Hid (Below s0 w W2) := by
    have h1 := HB1.out
    rw [HS0.out] at h1
    exact h1.trans (B2.mono (by have := lt_heap HM1.out.row; omega))
  obtain ⟨s1, hs1⟩ : ∃ s, W1.heap.size = s := ⟨_, rfl⟩
  rw [hs1] at HM2 HNE ⊢
  clear M2 B2 HM1 HB1 hs1 kN
  go_upto_region 6 with (fail)
  generalize hX : World.alloc W2 _ = W3
  have b23 : Hid (Below W2.heap.size W2 W3) := by rw [← hX]; exact below1 _
  have RE := hide1 (hX ▸ heap_alloc_new W2 _)
  obtain ⟨e, he⟩ : ∃ g, W2.heap.size = g := ⟨_, rfl⟩
  have HLT : Hid (s0 < e ∧ s1 < e) := ⟨by have := lt_heap HM0.out.row; omega, by have := lt_heap HM2.out.row; omega⟩
  rw [he] at RE ⊢
  have E3 : Hid (Em s0 e (fun i => if i = 0 then s0 else s1) (fun _ => .slice none 0 0) (fun i g => (i = 0 ∧ g = s0) ∨ (i = 1 ∧ g = s1) ∨ (i = 8 ∧ g = e)) 0 S0 W3) :=
    em0 (HM0.out.below b23.out (Nat.le_refl _)) (HM2.out.below b23.out (Nat.le_refl _)) (by have := HLT.out; omega) (by have := HNE.out; omega) (by have := HLT.out; omega) (by have := HLT.out; omega) RE.out
  have HB3 : Hid (Below s0 w W3) := HB2.out.trans (b23.out.mono (by have := lt_heap HM0.out.row; omega))
  clear hX he b23 RE HM0 HM2 HB2
  go_upto_block 0 with (fail)
  go_cut [8] from 31 to 54 (fun i wx => ∃ c S, c ≤ 60 ∧ At s0 e w c S wx)
  case first =>
    go_wp2_with fail
    go_loopw [8] (fun i wr => ∃ j : Nat, j ≤ 60 ∧ i = .int .i64 (j : Int) ∧ ∃ S, At s0 e w j S wr) (fun i _ => 200 - (intOf i).toNat)
    case atStart => exact ⟨0, by omega, rfl, S0, _, _, _, E3.out, HB3.out, wm0 _ (by omega)⟩
    case round =>
      obtain ⟨j, hj, rfl, S, p, vl, Fp, hE, hB, hW⟩ := hrel
      have HE := hide1 hE
      have HB := hide1 hB
      have HW := hide1 hW
      clear hE hB hW
      by_cases hgo : j < len ∧ j < 60
      · obtain ⟨hjl, hj60⟩ := hgo
        have gin : (j : Int) < (len : Int) := by omega
        have gin2 : (j : Int) < 60 := by omega
        obtain ⟨g, o, kind, who, pick, body, rfl, hpk, c0, c1, c2, c3⟩ := HM.out.below (HS0.out ▸ HB.out) j hjl
        by_cases hbd : body.size ≤ 100
        · have hbi : ¬ (100 : Int) < (body.size : Int) := by omega
          have kM := hide1 (movew_any HE.out HW.out (by omega) (by omega) kind who pick hpk body hbd)
          clear hbd hpk
          go_wp2_with fail
          refine kM.out.mono ?_
          rintro x9 W5 ⟨rfl, S5, p5, vl5, Fp5, E5, B5, D5⟩
          have HE5 := hide1 E5
          have HB5 := hide1 (HB.out.trans B5)
          have HD5 := hide1 D5
          clear kM E5 B5 D5 c0 c1 c2 c3
          go_wp2
          go_roundw
          case rel => exact ⟨j + 1, by omega, by go_num, S5, p5, vl5, Fp5, HE5.out, HB5.out, HD5.out.mono (by omega)⟩
          case measure => simp [intOf]; omega
        · have hbi : (100 : Int) < (body.size : Int) := by omega
          clear hbd hpk
          go_wp2
          go_roundw
          case rel => exact ⟨j + 1, by omega, by go_num, S, p, vl, Fp, HE.out.mono (Nat.le_succ j), HB.out, HW.out.mono (by omega)⟩
          case measure => simp [intOf]; omega
      · have gd : (j : Int) < (len : Int) → ¬ (j : Int) < 60 := by omega
        have FN : Hid (∃ c S, c ≤ 60 ∧ At s0 e w c S wr) := ⟨j, S, hj, p, vl, Fp, HE.out, HB.out, HW.out⟩
        by_cases hjl : j < len
        · have gin : (j : Int) < (len : Int) := by omega
          have gin2 : ¬ (j : Int) < 60 := by omega
          clear gd
          go_wp2
          go_meet
          exact FN.out
        · have gin : ¬ (j : Int) < (len : Int) := by omega
          clear gd
          go_wp2
          go_meet
          exact FN.out
  case rest =>
    obtain ⟨c0, S1, hc0, hA0⟩ := hcut
    have HC0 := hide1 hc0
    have HA0 := hide1 hA0
    clear hc0 hA0
    obtain ⟨SF, hSF⟩ : ∃ S, rds 40 S1 = S := ⟨_, rfl⟩
    have HSF := hide1 hSF
    clear hSF
    go_wp2_with fail
    go_loopw [9] (fun i wx => ∃ (j c : Nat) (S : Es), j ≤ 40 ∧ i = .int .i64 (j : Int) ∧ At s0 e w c S wx ∧ c ≤ 60 + 130 * j ∧ rds (40 - j) S = SF) (fun i _ => 200 - (intOf i).toNat)
    case atStart => exact ⟨0, c0, S1, by omega, rfl, HA0.out, by have := HC0.out; omega, HSF.out⟩
    case round =>
      obtain ⟨j, c, S, hj, rfl, hA, hc, hS⟩ := hrel
      have HAJ := hide1 hA
      have HCJ : Hid (c ≤ 60 + 130 * j ∧ j ≤ 40) := ⟨hc, hj⟩
      have HSJ := hide1 hS
      clear hA hc hS
      by_cases hgo : j < 40
      · have gin : (j : Int) < 40 := by omega
        have HJ := hide1 hgo
        clear hgo hj
        obtain ⟨Z1, hZ1⟩ : ∃ Z, Z = wr := ⟨_, rfl⟩
        subst hZ1
        go_wp2_with fail
        go_loopw [10] (fun x wx => ∃ c5 T, At s0 e w c5 T wx ∧ ((x = .int .i64 0 ∧ T = S ∧ c5 ≤ c) ∨ (x = .int .i64 1 ∧ T = hf 0 S ∧ c5 ≤ c + 61) ∨ (x = .int .i64 2 ∧ T = rdS S ∧ c5 ≤ c + 122))) (fun x _ => 2 - (intOf x).toNat)
        case atStart => exact ⟨c, S, HAJ.out, .inl ⟨rfl, rfl, Nat.le_refl _⟩⟩
        case round =>
          obtain ⟨c5, T, hA, hcase⟩ := hrel
          rcases hcase with ⟨rfl, hT, hc5⟩ | ⟨rfl, hT, hc5⟩ | ⟨rfl, hT, hc5⟩
          · have HTT := hide1 hT
            clear hT
            have HAT := hide1 hA
            clear hA
            have HCC : Hid (c5 ≤ c) := hide1 hc5
            clear hc5
            obtain ⟨a2, k2, a3, k3, w2, w3, l2, l3⟩ := HAT.out.ways
            have HL : Hid ((T.ls 2).length ≤ 60) := hide1 l2
            clear l2 l3 w3
            obtain ⟨m, hm⟩ : ∃ m, (T.ls 2).length = m := ⟨_, rfl⟩
            rw [hm] at HL w2
            have HM9 := hide1 hm
            clear hm
            obtain ⟨Z2, hZ2⟩ : ∃ Z, Z = wr := ⟨_, rfl⟩
            subst hZ2
            go_wp2_with fail
            go_loopw [11] (fun n wx => ∃ r c6 T6, r ≤ m ∧ n = .int .i64 (r : Int) ∧ At s0 e w c6 T6 wx ∧ c6 + r ≤ c5 + m ∧ it 0 r T6 = it 0 m T) (fun n _ => (intOf n).toNat)
            case atStart => exact ⟨m, c5, T, Nat.le_refl _, rfl, HAT.out, Nat.le_refl _, rfl⟩
            case round =>
              obtain ⟨r, c6, T6, hr, rfl, hA6, hc6, hT6⟩ := hrel
              have HA6 := hide1 hA6
              have HC6 := hide1 hc6
              have HT6 := hide1 hT6
              clear hA6 hc6 hT6 w2
              rcases r with _ | q
              · have gin : ¬ (0 : Int) < ((0 : Nat) : Int) := by decide
                have HE6 : Hid (T6 = it 0 m T) := HT6.out
                have kT := hide1 (HA6.out.tick0 (by have := HC6.out; have := HCC.out; have := HL.out; have := HCJ.out; omega))
                clear hr
                go_wp2_with fail
                refine kT.out.mono ?_
                rintro x9 W9 ⟨rfl, hA9⟩
                have HA9 := hide1 hA9
                clear hA9 kT
                go_wp2
                go_roundw
                case rel => exact ⟨c6 + 1, _, HA9.out, .inr (.inl ⟨rfl, by rw [HE6.out, ← HM9.out, HTT.out]; rfl, by have := HC6.out; have := HCC.out; have := HL.out; omega⟩)⟩
                case measure => simp [intOf]
              · have gin : (0 : Int) < ((q + 1 : Nat) : Int) := by omega
                have kT := hide1 (HA6.out.take0 (by have := HC6.out; have := HCC.out; have := HL.out; have := HCJ.out; omega))
                go_wp2_with fail
                refine kT.out.mono ?_
                rintro x9 W9 ⟨rfl, hA9⟩
                have HA9 := hide1 hA9
                clear hA9 kT
                have hq60 : q ≤ 60 := by have := HL.out; omega
                go_wp2
                go_roundw
                case rel => exact ⟨q, c6 + 1, _, by omega, by go_num, HA9.out, by have := HC6.out; omega, HT6.out⟩
                case measure => simp [intOf] <;> omega
          · have HTT := hide1 hT
            clear hT
            have HAT := hide1 hA
            clear hA
            have HCC : Hid (c5 ≤ c + 61) := hide1 hc5
            clear hc5
            obtain ⟨a2, k2, a3, k3, w2, w3, l2, l3⟩ := HAT.out.ways
            have HL : Hid ((T.ls 3).length ≤ 60) := hide1 l3
            clear l2 l3 w2
            obtain ⟨m, hm⟩ : ∃ m, (T.ls 3).length = m := ⟨_, rfl⟩
            rw [hm] at HL w3
            have HM9 := hide1 hm
            clear hm
            obtain ⟨Z2, hZ2⟩ : ∃ Z, Z = wr := ⟨_, rfl⟩
            subst hZ2
            go_wp2_with fail
            go_loopw [11] (fun n wx => ∃ r c6 T6, r ≤ m ∧ n = .int .i64 (r : Int) ∧ At s0 e w c6 T6 wx ∧ c6 + r ≤ c5 + m ∧ it 1 r T6 = it 1 m T) (fun n _ => (intOf n).toNat)
            case atStart => exact ⟨m, c5, T, Nat.le_refl _, rfl, HAT.out, Nat.le_refl _, rfl⟩
            case round =>
              obtain ⟨r, c6, T6, hr, rfl, hA6, hc6, hT6⟩ := hrel
              have HA6 := hide1 hA6
              have HC6 := hide1 hc6
              have HT6 := hide1 hT6
              clear hA6 hc6 hT6 w3
              rcases r with _ | q
              · have gin : ¬ (0 : Int) < ((0 : Nat) : Int) := by decide
                have HE6 : Hid (T6 = it 1 m T) := HT6.out
                have kT := hide1 (HA6.out.tick1 (by have := HC6.out; have := HCC.out; have := HL.out; have := HCJ.out; omega))
                clear hr
                go_wp2_with fail
                refine kT.out.mono ?_
                rintro x9 W9 ⟨rfl, hA9⟩
                have HA9 := hide1 hA9
                clear hA9 kT
                go_wp2
                go_roundw
                case rel => exact ⟨c6 + 1, _, HA9.out, .inr (.inr ⟨rfl, by rw [HE6.out, ← HM9.out, HTT.out]; rfl, by have := HC6.out; have := HCC.out; have := HL.out; omega⟩)⟩
                case measure => simp [intOf]
              · have gin : (0 : Int) < ((q + 1 : Nat) : Int) := by omega
                have kT := hide1 (HA6.out.take1 (by have := HC6.out; have := HCC.out; have := HL.out; have := HCJ.out; omega))
                go_wp2_with fail
                refine kT.out.mono ?_
                rintro x9 W9 ⟨rfl, hA9⟩
                have HA9 := hide1 hA9
                clear hA9 kT
                have hq60 : q ≤ 60 := by have := HL.out; omega
                go_wp2
                go_roundw
                case rel => exact ⟨q, c6 + 1, _, by omega, by go_num, HA9.out, by have := HC6.out; omega, HT6.out⟩
                case measure => simp [intOf] <;> omega
          · have HA9 := hide1 hA
            have HC9 := hide1 hc5
            have HT9 := hide1 hT
            clear hA hc5 hT
            go_wp2
            go_roundw
            case rel => exact ⟨j + 1, c5, T, by have := HJ.out; omega, by have := HJ.out; go_num, HA9.out, by have := HC9.out; have := HCJ.out; omega, by rw [HT9.out, ← HSJ.out, show 40 - j = (40 - (j + 1)) + 1 by have := HJ.out; omega]; rfl⟩
            case measure => have := HJ.out; simp [intOf]; omega
      · have gin : ¬ (j : Int) < 40 := by omega
        have hj40 : j = 40 := by omega
        have HCF : Hid (c ≤ 5260) := by unfold Hid; have := HCJ.out; omega
        have HSE : Hid (S = SF) := by have := HSJ.out; rw [hj40] at this; exact this
        obtain ⟨p, vl, Fp, hE, hB, hW⟩ := HAJ.out
        have HE := hide1 hE
        have HB := hide1 hB
        have HW := hide1 hW
        have HD : Hid (Dn S) := by
          obtain ⟨_, _, _, _, _, hW0⟩ := HA0.out
          have h2 := hW
          rw [HSE.out, ← HSF.out] at h2 ⊢
          exact done hW0 (by have := HC0.out; omega) h2
        clear hE hB hW HAJ hj hgo hj40
        obtain ⟨Z, hZ⟩ : ∃ Z, Z = wr := ⟨_, rfl⟩
        subst hZ
        have EX := fun X (hb : Below Z.heap.size Z X) => HE.out.below hb (Nat.le_refl _)
        have HEX := hide1 EX
        clear EX
        have kF : Hid (∀ X, Below Z.heap.size Z X → Calls Try.prog 7 #[.pointer (some ⟨e, 0, none⟩)] X fun x w' => x = .returned (.bool true) ∧ Below X.heap.size X w') := fun X hX => fair_any (HEX.out X hX) HW.out.w (by have := HCF.out; omega)
        have kR0 : Hid (∀ X, Below Z.heap.size Z X → Calls Try.prog 9 #[.pointer (some ⟨p 0, 0, none⟩)] X fun x w' => x = .returned (.bool true) ∧ Below X.heap.size X w') := fun X hX => by
          obtain ⟨v, m, u, h1, _⟩ := (HEX.out X hX).lk 0 (by omega)
          exact (lready_any h1 HW.out.w.l0.own0).mono (by rintro x w' ⟨rfl, rfl⟩; exact ⟨by rw [HD.out.s0], Below.refl _ _⟩)
        have kR1 : Hid (∀ X, Below Z.heap.size Z X → Calls Try.prog 9 #[.pointer (some ⟨p 1, 0, none⟩)] X fun x w' => x = .returned (.bool true) ∧ Below X.heap.size X w') := fun X hX => by
          obtain ⟨v, m, u, h1, _⟩ := (HEX.out X hX).lk 1 (by omega)
          exact (lready_any h1 HW.out.w.l1.own0).mono (by rintro x w' ⟨rfl, rfl⟩; exact ⟨by rw [HD.out.s1], Below.refl _ _⟩)
        have kW0 : Hid (∀ X, Below Z.heap.size Z X → Calls Try.prog 10 #[.pointer (some ⟨p 0, 0, none⟩)] X fun x w' => x = .returned (.int .i64 0) ∧ Below X.heap.size X w') := fun X hX => by
          obtain ⟨v, m, u, h1, _⟩ := (HEX.out X hX).lk 0 (by omega)
          exact (lwait_any h1 HW.out.w.l0.own0 HW.out.w.l0.Q64 HW.out.w.l0.A16).mono (by rintro x w' ⟨rfl, rfl⟩; exact ⟨by rw [HD.out.w0]; rfl, (Below.refl _ _).drew⟩)
        have kW1 : Hid (∀ X, Below Z.heap.size Z X → Calls Try.prog 10 #[.pointer (some ⟨p 1, 0, none⟩)] X fun x w' => x = .returned (.int .i64 0) ∧ Below X.heap.size X w') := fun X hX => by
          obtain ⟨v, m, u, h1, _⟩ := (HEX.out X hX).lk 1 (by omega)
          exact (lwait_any h1 HW.out.w.l1.own0 HW.out.w.l1.Q64 HW.out.w.l1.A16).mono (by rintro x w' ⟨rfl, rfl⟩; exact ⟨by rw [HD.out.w1]; rfl, (Below.refl _ _).drew⟩)
        have kT0 : Hid (∀ X, Below Z.heap.size Z X → Calls Try.prog 11 #[vl 6, vl 5] X fun x w' => x = .returned (.bool true) ∧ Below X.heap.size X w') := fun X hX => texts_any ((HEX.out X hX).ls 6 (by omega) (by omega)).1.rd (by rw [HD.out.g0]; exact ((HEX.out X hX).ls 5 (by omega) (by omega)).1.rd) (by have := HW.out.w.g6; have := HCF.out; omega)
        have kT1 : Hid (∀ X, Below Z.heap.size Z X → Calls Try.prog 11 #[vl 7, vl 4] X fun x w' => x = .returned (.bool true) ∧ Below X.heap.size X w') := fun X hX => texts_any ((HEX.out X hX).ls 7 (by omega) (by omega)).1.rd (by rw [HD.out.g1]; exact ((HEX.out X hX).ls 4 (by omega) (by omega)).1.rd) (by have := HW.out.w.g7; have := HCF.out; omega)
        have kA : Hid (∀ X, Below Z.heap.size Z X → Calls Try.prog 8 #[] X fun x w' => x = .returned (.bool true) ∧ Below X.heap.size X w') := fun X _ => (kAw X).out
        have CELLS := hide1 fun X (hb : Below Z.heap.size Z X) => (HEX.out X hb).cells
        go_upto_region 23 with (fail)
        refine region_f (F := []) (S := fun X => X.cell? ⟨e, 0, none⟩ = some (.pointer (some ⟨p 0, 0, none⟩)) ∧ X.cell? ⟨e, 1, none⟩ = some (.pointer (some ⟨p 1, 0, none⟩)) ∧ X.cell? ⟨e, 4, none⟩ = some (vl 4) ∧ X.cell? ⟨e, 5, none⟩ = some (vl 5) ∧ X.cell? ⟨e, 6, none⟩ = some (vl 6) ∧ X.cell? ⟨e, 7, none⟩ = some (vl 7)) (by kernel_rfl) (CELLS.out _ (Below.refl _ _).drew) (fun hS => ?_)
        have hX : Below Z.heap.size Z (World.drew Z) := (Below.refl _ _).drew
        refine take_p 0 82 (.pointer (some ⟨e, 0, none⟩)) rfl rfl (by kernel_rfl) (by kernel_rfl) (by kernel_rfl) (fun _ _ _ h => h) rfl (fun w => by go_simp) ?_
        try simp only [List.setIfInBounds_toArray, List.set_cons_zero, List.set_cons_succ]
        refine ready_f 1 (o := { dst := some 83, op := Op.call { callee := Callee.value (Operand.func 7), args := #[Operand.tmp 82], argTypes := #[29] }, type := 4, pos := "law.go:215", after := #[{ on := 0, ground := Ground.data }], guard := none }) (by kernel_rfl) rfl (fun K hK => ?_)
        go_simp
        refine (kF.out _ hX).mono ?_
        rintro x9 wn ⟨rfl, hbn⟩
        replace hX := hX.trans (hbn.mono hX.size)
        clear hbn
        replace hS := CELLS.out _ hX
        refine hK.out _ _ (fun _ _ => hS) ?_
        clear hK K
        try simp only [Act.put, List.setIfInBounds_toArray, List.set_cons_zero, List.set_cons_succ]
        refine take_p 2 84 (.bool true) rfl rfl (by kernel_rfl) (by kernel_rfl) (by kernel_rfl) (fun _ _ _ h => h) rfl (fun w => by go_simp) ?_
        try simp only [List.setIfInBounds_toArray, List.set_cons_zero, List.set_cons_succ]
        refine take_p 3 85 (.pointer (some ⟨e, 0, none⟩)) rfl rfl (by kernel_rfl) (by kernel_rfl) (by kernel_rfl) (fun _ _ _ h => h) rfl (fun w => by go_simp) ?_
        try simp only [List.setIfInBounds_toArray, List.set_cons_zero, List.set_cons_succ]
        refine take_p 4 86 (.pointer (some ⟨e, 0, none⟩)) rfl rfl (by kernel_rfl) (by kernel_rfl) (by kernel_rfl) (fun _ _ _ h => h) rfl (fun w => by go_simp) ?_
        try simp only [List.setIfInBounds_toArray, List.set_cons_zero, List.set_cons_succ]
        refine take_p 5 87 (.pointer (some ⟨e, 0, none⟩)) rfl rfl (by kernel_rfl) (by kernel_rfl) (by kernel_rfl) (fun _ _ _ h => h) rfl (fun w => by go_simp) ?_
        try simp only [List.setIfInBounds_toArray, List.set_cons_zero, List.set_cons_succ]
        refine take_p 6 88 (.pointer (some ⟨e, 0, none⟩)) rfl rfl (by kernel_rfl) (by kernel_rfl) (by kernel_rfl) (fun _ _ _ h => h) rfl (fun w => by go_simp) ?_
        try simp only [List.setIfInBounds_toArray, List.set_cons_zero, List.set_cons_succ]
        refine take_f 7 89 (.pointer (some ⟨p 0, 0, none⟩)) [8, 9, 10, 11, 12, 13, 14, 15, 16, 17, 18, 19, 20, 21, 22, 23, 24, 25, 26, 27, 28, 29, 30, 31, 32, 33, 34, 35, 36, 37, 38, 39, 40, 41, 42, 43, 44, 45, 46, 47, 48, 49, 50, 51, 52, 53, 54, 55, 56, 57, 58, 59, 60, 61, 62, 63, 64, 65] rfl rfl (by kernel_rfl) (by kernel_rfl) (by kernel_rfl) (by kernel_rfl) (by kernel_rfl) (by kernel_rfl) (fun _ _ _ h => h) rfl (fun w hSw => by obtain ⟨h0, h1, h4, h5, h6, h7⟩ := hSw; go_simp) hS ?_
        try simp only [List.setIfInBounds_toArray, List.set_cons_zero, List.set_cons_succ]
        refine ready_f 8 (o := { dst := some 90, op := Op.call { callee := Callee.value (Operand.func 9), args := #[Operand.tmp 89], argTypes := #[23] }, type := 4, pos := "law.go:215", after := #[{ on := 7, ground := Ground.data }, { on := 2, ground := Ground.chain }, { on := 2, ground := Ground.guard }], guard := some (2, true) }) (by kernel_rfl) rfl (fun K hK => ?_)
        go_simp
        refine (kR0.out _ hX).mono ?_
        rintro x9 wn ⟨rfl, hbn⟩
        replace hX := hX.trans (hbn.mono hX.size)
        clear hbn
        replace hS := CELLS.out _ hX
        refine hK.out _ _ (fun _ _ => hS) ?_
        clear hK K
        try simp only [Act.put, List.setIfInBounds_toArray, List.set_cons_zero, List.set_cons_succ]
        refine take_p 9 91 (.bool true) rfl rfl (by kernel_rfl) (by kernel_rfl) (by kernel_rfl) (fun _ _ _ h => h) rfl (fun w => by go_simp) ?_
        try simp only [List.setIfInBounds_toArray, List.set_cons_zero, List.set_cons_succ]
        refine take_p 10 92 (.bool true) rfl rfl (by kernel_rfl) (by kernel_rfl) (by kernel_rfl) (fun _ _ _ h => h) rfl (fun w => by go_simp) ?_
        try simp only [List.setIfInBounds_toArray, List.set_cons_zero, List.set_cons_succ]
        refine take_p 11 93 (.pointer (some ⟨e, 0, none⟩)) rfl rfl (by kernel_rfl) (by kernel_rfl) (by kernel_rfl) (fun _ _ _ h => h) rfl (fun w => by go_simp) ?_
        try simp only [List.setIfInBounds_toArray, List.set_cons_zero, List.set_cons_succ]
        refine take_p 12 94 (.pointer (some ⟨e, 0, none⟩)) rfl rfl (by kernel_rfl) (by kernel_rfl) (by kernel_rfl) (fun _ _ _ h => h) rfl (fun w => by go_simp) ?_
        try simp only [List.setIfInBounds_toArray, List.set_cons_zero, List.set_cons_succ]
        refine take_p 13 95 (.pointer (some ⟨e, 0, none⟩)) rfl rfl (by kernel_rfl) (by kernel_rfl) (by kernel_rfl) (fun _ _ _ h => h) rfl (fun w => by go_simp) ?_
        try simp only [List.setIfInBounds_toArray, List.set_cons_zero, List.set_cons_succ]
        refine take_p 14 96 (.pointer (some ⟨e, 1, none⟩)) rfl rfl (by kernel_rfl) (by kernel_rfl) (by kernel_rfl) (fun _ _ _ h => h) rfl (fun w => by go_simp) ?_
        try simp only [List.setIfInBounds_toArray, List.set_cons_zero, List.set_cons_succ]
        refine take_f 15 97 (.pointer (some ⟨p 1, 0, none⟩)) [16, 17, 18, 19, 20, 21, 22, 23, 24, 25, 26, 27, 28, 29, 30, 31, 32, 33, 34, 35, 36, 37, 38, 39, 40, 41, 42, 43, 44, 45, 46, 47, 48, 49, 50, 51, 52, 53, 54, 55, 56, 57, 58, 59, 60, 61, 62, 63, 64, 65] rfl rfl (by kernel_rfl) (by kernel_rfl) (by kernel_rfl) (by kernel_rfl) (by kernel_rfl) (by kernel_rfl) (fun _ _ _ h => h) rfl (fun w hSw => by obtain ⟨h0, h1, h4, h5, h6, h7⟩ := hSw; go_simp) hS ?_
        try simp only [List.setIfInBounds_toArray, List.set_cons_zero, List.set_cons_succ]
        refine ready_f 16 (o := { dst := some 98, op := Op.call { callee := Callee.value (Operand.func 9), args := #[Operand.tmp 97], argTypes := #[23] }, type := 4, pos := "law.go:215", after := #[{ on := 15, ground := Ground.data }, { on := 10, ground := Ground.chain }, { on := 10, ground := Ground.guard }], guard := some (10, true) }) (by kernel_rfl) rfl (fun K hK => ?_)
        go_simp
        refine (kR1.out _ hX).mono ?_
        rintro x9 wn ⟨rfl, hbn⟩
        replace hX := hX.trans (hbn.mono hX.size)
        clear hbn
        replace hS := CELLS.out _ hX
        refine hK.out _ _ (fun _ _ => hS) ?_
        clear hK K
        try simp only [Act.put, List.setIfInBounds_toArray, List.set_cons_zero, List.set_cons_succ]
        refine take_p 17 99 (.bool true) rfl rfl (by kernel_rfl) (by kernel_rfl) (by kernel_rfl) (fun _ _ _ h => h) rfl (fun w => by go_simp) ?_
        try simp only [List.setIfInBounds_toArray, List.set_cons_zero, List.set_cons_succ]
        refine take_p 18 100 (.bool true) rfl rfl (by kernel_rfl) (by kernel_rfl) (by kernel_rfl) (fun _ _ _ h => h) rfl (fun w => by go_simp) ?_
        try simp only [List.setIfInBounds_toArray, List.set_cons_zero, List.set_cons_succ]
        refine take_p 19 101 (.pointer (some ⟨e, 0, none⟩)) rfl rfl (by kernel_rfl) (by kernel_rfl) (by kernel_rfl) (fun _ _ _ h => h) rfl (fun w => by go_simp) ?_
        try simp only [List.setIfInBounds_toArray, List.set_cons_zero, List.set_cons_succ]
        refine take_p 20 102 (.pointer (some ⟨e, 0, none⟩)) rfl rfl (by kernel_rfl) (by kernel_rfl) (by kernel_rfl) (fun _ _ _ h => h) rfl (fun w => by go_simp) ?_
        try simp only [List.setIfInBounds_toArray, List.set_cons_zero, List.set_cons_succ]
        refine take_p 21 103 (.pointer (some ⟨e, 0, none⟩)) rfl rfl (by kernel_rfl) (by kernel_rfl) (by kernel_rfl) (fun _ _ _ h => h) rfl (fun w => by go_simp) ?_
        try simp only [List.setIfInBounds_toArray, List.set_cons_zero, List.set_cons_succ]
        refine take_p 22 104 (.pointer (some ⟨e, 0, none⟩)) rfl rfl (by kernel_rfl) (by kernel_rfl) (by kernel_rfl) (fun _ _ _ h => h) rfl (fun w => by go_simp) ?_
        try simp only [List.setIfInBounds_toArray, List.set_cons_zero, List.set_cons_succ]
        refine take_f 23 105 (.pointer (some ⟨p 0, 0, none⟩)) [24, 25, 26, 27, 28, 29, 30, 31, 32, 33, 34, 35, 36, 37, 38, 39, 40, 41, 42, 43, 44, 45, 46, 47, 48, 49, 50, 51, 52, 53, 54, 55, 56, 57, 58, 59, 60, 61, 62, 63, 64, 65] rfl rfl (by kernel_rfl) (by kernel_rfl) (by kernel_rfl) (by kernel_rfl) (by kernel_rfl) (by kernel_rfl) (fun _ _ _ h => h) rfl (fun w hSw => by obtain ⟨h0, h1, h4, h5, h6, h7⟩ := hSw; go_simp) hS ?_
        try simp only [List.setIfInBounds_toArray, List.set_cons_zero, List.set_cons_succ]
        refine ready_f 24 (o := { dst := some 106, op := Op.call { callee := Callee.value (Operand.func 10), args := #[Operand.tmp 105], argTypes := #[23] }, type := 3, pos := "law.go:215", after := #[{ on := 23, ground := Ground.data }, { on := 18, ground := Ground.chain }, { on := 18, ground := Ground.guard }], guard := some (18, true) }) (by kernel_rfl) rfl (fun K hK => ?_)
        go_simp
        refine (kW0.out _ hX).mono ?_
        rintro x9 wn ⟨rfl, hbn⟩
        replace hX := hX.trans (hbn.mono hX.size)
        clear hbn
        replace hS := CELLS.out _ hX
        refine hK.out _ _ (fun _ _ => hS) ?_
        clear hK K
        try simp only [Act.put, List.setIfInBounds_toArray, List.set_cons_zero, List.set_cons_succ]
        refine take_p 25 107 (.bool true) rfl rfl (by kernel_rfl) (by kernel_rfl) (by kernel_rfl) (fun _ _ _ h => h) rfl (fun w => by go_simp) ?_
        try simp only [List.setIfInBounds_toArray, List.set_cons_zero, List.set_cons_succ]
        refine take_p 26 108 (.bool true) rfl rfl (by kernel_rfl) (by kernel_rfl) (by kernel_rfl) (fun _ _ _ h => h) rfl (fun w => by go_simp) ?_
        try simp only [List.setIfInBounds_toArray, List.set_cons_zero, List.set_cons_succ]
        refine take_p 27 109 (.bool true) rfl rfl (by kernel_rfl) (by kernel_rfl) (by kernel_rfl) (fun _ _ _ h => h) rfl (fun w => by go_simp) ?_
        try simp only [List.setIfInBounds_toArray, List.set_cons_zero, List.set_cons_succ]
        refine take_p 28 110 (.pointer (some ⟨e, 0, none⟩)) rfl rfl (by kernel_rfl) (by kernel_rfl) (by kernel_rfl) (fun _ _ _ h => h) rfl (fun w => by go_simp) ?_
        try simp only [List.setIfInBounds_toArray, List.set_cons_zero, List.set_cons_succ]
        refine take_p 29 111 (.pointer (some ⟨e, 0, none⟩)) rfl rfl (by kernel_rfl) (by kernel_rfl) (by kernel_rfl) (fun _ _ _ h => h) rfl (fun w => by go_simp) ?_
        try simp only [List.setIfInBounds_toArray, List.set_cons_zero, List.set_cons_succ]
        refine take_p 30 112 (.pointer (some ⟨e, 0, none⟩)) rfl rfl (by kernel_rfl) (by kernel_rfl) (by kernel_rfl) (fun _ _ _ h => h) rfl (fun w => by go_simp) ?_
        try simp only [List.setIfInBounds_toArray, List.set_cons_zero, List.set_cons_succ]
        refine take_p 31 113 (.pointer (some ⟨e, 1, none⟩)) rfl rfl (by kernel_rfl) (by kernel_rfl) (by kernel_rfl) (fun _ _ _ h => h) rfl (fun w => by go_simp) ?_
        try simp only [List.setIfInBounds_toArray, List.set_cons_zero, List.set_cons_succ]
        refine take_f 32 114 (.pointer (some ⟨p 1, 0, none⟩)) [33, 34, 35, 36, 37, 38, 39, 40, 41, 42, 43, 44, 45, 46, 47, 48, 49, 50, 51, 52, 53, 54, 55, 56, 57, 58, 59, 60, 61, 62, 63, 64, 65] rfl rfl (by kernel_rfl) (by kernel_rfl) (by kernel_rfl) (by kernel_rfl) (by kernel_rfl) (by kernel_rfl) (fun _ _ _ h => h) rfl (fun w hSw => by obtain ⟨h0, h1, h4, h5, h6, h7⟩ := hSw; go_simp) hS ?_
        try simp only [List.setIfInBounds_toArray, List.set_cons_zero, List.set_cons_succ]
        refine ready_f 33 (o := { dst := some 115, op := Op.call { callee := Callee.value (Operand.func 10), args := #[Operand.tmp 114], argTypes := #[23] }, type := 3, pos := "law.go:215", after := #[{ on := 32, ground := Ground.data }, { on := 27, ground := Ground.chain }, { on := 27, ground := Ground.guard }], guard := some (27, true) }) (by kernel_rfl) rfl (fun K hK => ?_)
        go_simp
        refine (kW1.out _ hX).mono ?_
        rintro x9 wn ⟨rfl, hbn⟩
        replace hX := hX.trans (hbn.mono hX.size)
        clear hbn
        replace hS := CELLS.out _ hX
        refine hK.out _ _ (fun _ _ => hS) ?_
        clear hK K
        try simp only [Act.put, List.setIfInBounds_toArray, List.set_cons_zero, List.set_cons_succ]
        refine take_p 34 116 (.bool true) rfl rfl (by kernel_rfl) (by kernel_rfl) (by kernel_rfl) (fun _ _ _ h => h) rfl (fun w => by go_simp) ?_
        try simp only [List.setIfInBounds_toArray, List.set_cons_zero, List.set_cons_succ]
        refine take_p 35 117 (.bool true) rfl rfl (by kernel_rfl) (by kernel_rfl) (by kernel_rfl) (fun _ _ _ h => h) rfl (fun w => by go_simp) ?_
        try simp only [List.setIfInBounds_toArray, List.set_cons_zero, List.set_cons_succ]
        refine take_p 36 118 (.bool true) rfl rfl (by kernel_rfl) (by kernel_rfl) (by kernel_rfl) (fun _ _ _ h => h) rfl (fun w => by go_simp) ?_
        try simp only [List.setIfInBounds_toArray, List.set_cons_zero, List.set_cons_succ]
        refine take_p 37 119 (.pointer (some ⟨e, 0, none⟩)) rfl rfl (by kernel_rfl) (by kernel_rfl) (by kernel_rfl) (fun _ _ _ h => h) rfl (fun w => by go_simp) ?_
        try simp only [List.setIfInBounds_toArray, List.set_cons_zero, List.set_cons_succ]
        refine take_p 38 120 (.pointer (some ⟨e, 0, none⟩)) rfl rfl (by kernel_rfl) (by kernel_rfl) (by kernel_rfl) (fun _ _ _ h => h) rfl (fun w => by go_simp) ?_
        try simp only [List.setIfInBounds_toArray, List.set_cons_zero, List.set_cons_succ]
        refine take_p 39 121 (.pointer (some ⟨e, 6, none⟩)) rfl rfl (by kernel_rfl) (by kernel_rfl) (by kernel_rfl) (fun _ _ _ h => h) rfl (fun w => by go_simp) ?_
        try simp only [List.setIfInBounds_toArray, List.set_cons_zero, List.set_cons_succ]
        refine take_p 40 122 (.pointer (some ⟨e, 6, none⟩)) rfl rfl (by kernel_rfl) (by kernel_rfl) (by kernel_rfl) (fun _ _ _ h => h) rfl (fun w => by go_simp) ?_
        try simp only [List.setIfInBounds_toArray, List.set_cons_zero, List.set_cons_succ]
        refine take_f 41 123 (vl 6) [47, 48, 49, 50, 51, 52, 53, 54, 55, 56, 57, 58, 59, 60, 61, 62, 63, 64, 65] rfl rfl (by kernel_rfl) (by kernel_rfl) (by kernel_rfl) (by kernel_rfl) (by kernel_rfl) (by kernel_rfl) (fun _ _ _ h => h) rfl (fun w hSw => by obtain ⟨h0, h1, h4, h5, h6, h7⟩ := hSw; go_simp) hS ?_
        try simp only [List.setIfInBounds_toArray, List.set_cons_zero, List.set_cons_succ]
        refine take_p 42 124 (.pointer (some ⟨e, 0, none⟩)) rfl rfl (by kernel_rfl) (by kernel_rfl) (by kernel_rfl) (fun _ _ _ h => h) rfl (fun w => by go_simp) ?_
        try simp only [List.setIfInBounds_toArray, List.set_cons_zero, List.set_cons_succ]
        refine take_p 43 125 (.pointer (some ⟨e, 0, none⟩)) rfl rfl (by kernel_rfl) (by kernel_rfl) (by kernel_rfl) (fun _ _ _ h => h) rfl (fun w => by go_simp) ?_
        try simp only [List.setIfInBounds_toArray, List.set_cons_zero, List.set_cons_succ]
        refine take_p 44 126 (.pointer (some ⟨e, 4, none⟩)) rfl rfl (by kernel_rfl) (by kernel_rfl) (by kernel_rfl) (fun _ _ _ h => h) rfl (fun w => by go_simp) ?_
        try simp only [List.setIfInBounds_toArray, List.set_cons_zero, List.set_cons_succ]
        refine take_p 45 127 (.pointer (some ⟨e, 5, none⟩)) rfl rfl (by kernel_rfl) (by kernel_rfl) (by kernel_rfl) (fun _ _ _ h => h) rfl (fun w => by go_simp) ?_
        try simp only [List.setIfInBounds_toArray, List.set_cons_zero, List.set_cons_succ]
        refine take_f 46 128 (vl 5) [47, 48, 49, 50, 51, 52, 53, 54, 55, 56, 57, 58, 59, 60, 61, 62, 63, 64, 65] rfl rfl (by kernel_rfl) (by kernel_rfl) (by kernel_rfl) (by kernel_rfl) (by kernel_rfl) (by kernel_rfl) (fun _ _ _ h => h) rfl (fun w hSw => by obtain ⟨h0, h1, h4, h5, h6, h7⟩ := hSw; go_simp) hS ?_
        try simp only [List.setIfInBounds_toArray, List.set_cons_zero, List.set_cons_succ]
        refine ready_f 47 (o := { dst := some 129, op := Op.call { callee := Callee.value (Operand.func 11), args := #[Operand.tmp 123, Operand.tmp 128], argTypes := #[31, 31] }, type := 4, pos := "law.go:215", after := #[{ on := 41, ground := Ground.data }, { on := 46, ground := Ground.data }, { on := 36, ground := Ground.chain }, { on := 36, ground := Ground.guard }], guard := some (36, true) }) (by kernel_rfl) rfl (fun K hK => ?_)
        go_simp
        refine (kT0.out _ hX).mono ?_
        rintro x9 wn ⟨rfl, hbn⟩
        replace hX := hX.trans (hbn.mono hX.size)
        clear hbn
        replace hS := CELLS.out _ hX
        refine hK.out _ _ (fun _ _ => hS) ?_
        clear hK K
        try simp only [Act.put, List.setIfInBounds_toArray, List.set_cons_zero, List.set_cons_succ]
        refine take_p 48 130 (.bool true) rfl rfl (by kernel_rfl) (by kernel_rfl) (by kernel_rfl) (fun _ _ _ h => h) rfl (fun w => by go_simp) ?_
        try simp only [List.setIfInBounds_toArray, List.set_cons_zero, List.set_cons_succ]
        refine take_p 49 131 (.bool true) rfl rfl (by kernel_rfl) (by kernel_rfl) (by kernel_rfl) (fun _ _ _ h => h) rfl (fun w => by go_simp) ?_
        try simp only [List.setIfInBounds_toArray, List.set_cons_zero, List.set_cons_succ]
        refine take_p 50 132 (.pointer (some ⟨e, 0, none⟩)) rfl rfl (by kernel_rfl) (by kernel_rfl) (by kernel_rfl) (fun _ _ _ h => h) rfl (fun w => by go_simp) ?_
        try simp only [List.setIfInBounds_toArray, List.set_cons_zero, List.set_cons_succ]
        refine take_p 51 133 (.pointer (some ⟨e, 0, none⟩)) rfl rfl (by kernel_rfl) (by kernel_rfl) (by kernel_rfl) (fun _ _ _ h => h) rfl (fun w => by go_simp) ?_
        try simp only [List.setIfInBounds_toArray, List.set_cons_zero, List.set_cons_succ]
        refine take_p 52 134 (.pointer (some ⟨e, 6, none⟩)) rfl rfl (by kernel_rfl) (by kernel_rfl) (by kernel_rfl) (fun _ _ _ h => h) rfl (fun w => by go_simp) ?_
        try simp only [List.setIfInBounds_toArray, List.set_cons_zero, List.set_cons_succ]
        refine take_p 53 135 (.pointer (some ⟨e, 7, none⟩)) rfl rfl (by kernel_rfl) (by kernel_rfl) (by kernel_rfl) (fun _ _ _ h => h) rfl (fun w => by go_simp) ?_
        try simp only [List.setIfInBounds_toArray, List.set_cons_zero, List.set_cons_succ]
        refine take_f 54 136 (vl 7) [60, 61, 62, 63, 64, 65] rfl rfl (by kernel_rfl) (by kernel_rfl) (by kernel_rfl) (by kernel_rfl) (by kernel_rfl) (by kernel_rfl) (fun _ _ _ h => h) rfl (fun w hSw => by obtain ⟨h0, h1, h4, h5, h6, h7⟩ := hSw; go_simp) hS ?_
        try simp only [List.setIfInBounds_toArray, List.set_cons_zero, List.set_cons_succ]
        refine take_p 55 137 (.pointer (some ⟨e, 0, none⟩)) rfl rfl (by kernel_rfl) (by kernel_rfl) (by kernel_rfl) (fun _ _ _ h => h) rfl (fun w => by go_simp) ?_
        try simp only [List.setIfInBounds_toArray, List.set_cons_zero, List.set_cons_succ]
        refine take_p 56 138 (.pointer (some ⟨e, 0, none⟩)) rfl rfl (by kernel_rfl) (by kernel_rfl) (by kernel_rfl) (fun _ _ _ h => h) rfl (fun w => by go_simp) ?_
        try simp only [List.setIfInBounds_toArray, List.set_cons_zero, List.set_cons_succ]
        refine take_p 57 139 (.pointer (some ⟨e, 4, none⟩)) rfl rfl (by kernel_rfl) (by kernel_rfl) (by kernel_rfl) (fun _ _ _ h => h) rfl (fun w => by go_simp) ?_
        try simp only [List.setIfInBounds_toArray, List.set_cons_zero, List.set_cons_succ]
        refine take_p 58 140 (.pointer (some ⟨e, 4, none⟩)) rfl rfl (by kernel_rfl) (by kernel_rfl) (by kernel_rfl) (fun _ _ _ h => h) rfl (fun w => by go_simp) ?_
        try simp only [List.setIfInBounds_toArray, List.set_cons_zero, List.set_cons_succ]
        refine take_f 59 141 (vl 4) [60, 61, 62, 63, 64, 65] rfl rfl (by kernel_rfl) (by kernel_rfl) (by kernel_rfl) (by kernel_rfl) (by kernel_rfl) (by kernel_rfl) (fun _ _ _ h => h) rfl (fun w hSw => by obtain ⟨h0, h1, h4, h5, h6, h7⟩ := hSw; go_simp) hS ?_
        try simp only [List.setIfInBounds_toArray, List.set_cons_zero, List.set_cons_succ]
        refine ready_f 60 (o := { dst := some 142, op := Op.call { callee := Callee.value (Operand.func 11), args := #[Operand.tmp 136, Operand.tmp 141], argTypes := #[31, 31] }, type := 4, pos := "law.go:215", after := #[{ on := 54, ground := Ground.data }, { on := 59, ground := Ground.data }, { on := 49, ground := Ground.chain }, { on := 49, ground := Ground.guard }], guard := some (49, true) }) (by kernel_rfl) rfl (fun K hK => ?_)
        go_simp
        refine (kT1.out _ hX).mono ?_
        rintro x9 wn ⟨rfl, hbn⟩
        replace hX := hX.trans (hbn.mono hX.size)
        clear hbn
        replace hS := CELLS.out _ hX
        refine hK.out _ _ (fun _ _ => hS) ?_
        clear hK K
        try simp only [Act.put, List.setIfInBounds_toArray, List.set_cons_zero, List.set_cons_succ]
        refine take_p 61 143 (.bool true) rfl rfl (by kernel_rfl) (by kernel_rfl) (by kernel_rfl) (fun _ _ _ h => h) rfl (fun w => by go_simp) ?_
        try simp only [List.setIfInBounds_toArray, List.set_cons_zero, List.set_cons_succ]
        refine take_p 62 144 (.bool true) rfl rfl (by kernel_rfl) (by kernel_rfl) (by kernel_rfl) (fun _ _ _ h => h) rfl (fun w => by go_simp) ?_
        try simp only [List.setIfInBounds_toArray, List.set_cons_zero, List.set_cons_succ]
        refine ready_f 63 (o := { dst := some 145, op := Op.call { callee := Callee.value (Operand.func 8), args := #[], argTypes := #[] }, type := 4, pos := "law.go:215", after := #[{ on := 62, ground := Ground.chain }, { on := 62, ground := Ground.guard }], guard := some (62, true) }) (by kernel_rfl) rfl (fun K hK => ?_)
        go_simp
        refine (kA.out _ hX).mono ?_
        rintro x9 wn ⟨rfl, hbn⟩
        replace hX := hX.trans (hbn.mono hX.size)
        clear hbn
        replace hS := CELLS.out _ hX
        refine hK.out _ _ (fun _ _ => hS) ?_
        clear hK K
        try simp only [Act.put, List.setIfInBounds_toArray, List.set_cons_zero, List.set_cons_succ]
        refine take_p 64 146 (.bool true) rfl rfl (by kernel_rfl) (by kernel_rfl) (by kernel_rfl) (fun _ _ _ h => h) rfl (fun w => by go_simp) ?_
        try simp only [List.setIfInBounds_toArray, List.set_cons_zero, List.set_cons_succ]
        refine take_p 65 2 (.bool true) rfl rfl (by kernel_rfl) (by kernel_rfl) (by kernel_rfl) (fun _ _ _ h => h) rfl (fun w => by go_simp) ?_
        try simp only [List.setIfInBounds_toArray, List.set_cons_zero, List.set_cons_succ]
        refine done_f (by kernel_rfl) ?_ _
        have FN := hide1 (HS0.out ▸ HB.out.trans (hX.mono HE.out.hB) : Below w.heap.size w _)
        go_wp2
        first | go_ret | skip
        exact ⟨rfl, FN.out⟩
end Go.Proofs.Ytcadlcpccemkbaa
