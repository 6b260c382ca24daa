/- Receive. -/
import Derived.Test.YtcadlcpccemkbaaJv
namespace Go.Proofs.Ytcadlcpccemkbaa
open Go.RowKit
set_option maxRecDepth 100000
attribute [local go_sem] not_any

/- a frame that can be read -/
def Good (s : ByteArray) : Prop := 17 ≤ s.size ∧ X.decC s = 0
instance (s : ByteArray) : Decidable (Good s) := by unfold Good; infer_instance
def bod (s : ByteArray) : ByteArray := s.extract 17 s.size
def Ls.recvX (x : Ls) (s : ByteArray) : Ls := if Good s then x.takeX (X.hdK s) (X.hdN s 1) (X.hdN s 5) (X.hdN s 9) (X.hdN s 13) (bod s) else x
def Ls.recvB (x : Ls) (s : ByteArray) : List ByteArray := if Good s then x.takeB (X.hdK s) (X.hdN s 1) (X.hdN s 5) (X.hdN s 9) (X.hdN s 13) (bod s) else []
def Ls.recvA (x : Ls) (s : ByteArray) : Bool := if Good s then x.takeA (X.hdN s 1) else false
def Ls.recvC (x : Ls) (s : ByteArray) : Int := if Good s then (x.takeC (X.hdK s) (X.hdN s 1) (X.hdN s 5) (X.hdN s 9) (X.hdN s 13) : Int) else if 17 ≤ s.size then X.decC s else 12

/- an error that was wrapped so often -/
def Chn (w : World) (c : Int) : Nat → Nat → Prop
  | 0, p => ∃ f, w.heap[p]? = some (X.flt c f)
  | d + 1, p => ∃ t q, w.heap[p]? = some (X.wrp t q) ∧ q < p ∧ Chn w c d q
def Erl (w : World) (c : Int) (z : Value) : Prop := (c = 0 ∧ z = .nilIface) ∨ (c ≠ 0 ∧ ∃ d p, d ≤ 2 ∧ z = .iface 64 (.pointer (some ⟨p, 0, none⟩)) ∧ Chn w c d p)
theorem Chn.same {w w' : World} {c : Int} (hs : ∀ g, g < w.heap.size → w'.heap[g]? = w.heap[g]?) : ∀ {d p : Nat}, Chn w c d p → Chn w' c d p
  | 0, p, ⟨f, h⟩ => ⟨f, (hs p (lt_heap h)).trans h⟩
  | _ + 1, p, ⟨t, q, h, hq, hc⟩ => ⟨t, q, (hs p (lt_heap h)).trans h, hq, Chn.same hs hc⟩

theorem Chn.but {w w' : World} {c : Int} {b : Nat} {x y : Value} (h4 : w.heap[b]? = some (.cells #[x, y] 60 (0, 0))) (hs : ∀ g, g < w.heap.size → g ≠ b → w'.heap[g]? = w.heap[g]?) : ∀ {d p : Nat}, Chn w c d p → Chn w' c d p
  | 0, p, ⟨f, h⟩ => ⟨f, (hs p (lt_heap h) (fun e => by rw [e, h4] at h; cases h)).trans h⟩
  | _ + 1, p, ⟨t, q, h, hq, hc⟩ => ⟨t, q, (hs p (lt_heap h) (fun e => by rw [e, h4] at h; cases h)).trans h, hq, Chn.but h4 hs hc⟩
theorem chk_own {k o p q a : Int} {n : Nat} (h : X.chk k o p q a n = 0) : o ≠ 0 := by
  intro e
  unfold X.chk at h
  split at h
  · cases h
  · split at h
    · cases h
    · rw [if_pos (.inl e)] at h
      cases h

/- what Receive leaves -/
def Rcp (B s : Nat) (v m u : Value) (w : World) (n : Nat) (x : Ls) (t : ByteArray) (r : Value) (d : Bool) (z : Value) (w' : World) : Prop :=
  d = x.recvA t ∧ Erl w' (x.recvC t) z ∧ Flp B s v m u w (n + 1) (x.recvX t) r (x.recvB t) w'

theorem decC_12 (s : ByteArray) (h : ¬ Good s) : (if 17 ≤ s.size then X.decC s else 12) ≠ 0 := by
  unfold Good at h
  split
  · rename_i h17
    exact fun e => h ⟨h17, e⟩
  · decide
/- an error of Decode -/
theorem decode_err (s : ByteArray) (w : World) (hs : s.size ≤ 281474976710656) (hg : ¬ Good s) :
    Calls Try.prog 28 #[.string s] w fun e w' => ∃ d p, e = .returned (.tuple #[X.fra 0 0 0 0 0 ⟨#[]⟩, .iface 64 (.pointer (some ⟨p, 0, none⟩))]) ∧ d ≤ 1 ∧ p < w'.heap.size ∧ Chn w' (if 17 ≤ s.size then X.decC s else 12) d p ∧ Below w.heap.size w w' := by
  by_cases h17 : 17 ≤ s.size
  · rw [if_pos h17]
    refine (X.decode_bad s w hs h17 (fun e => hg ⟨h17, e⟩)).mono ?_
    rintro e w' ⟨m, rfl, hm, _, hb⟩
    exact ⟨0, m, rfl, by omega, lt_heap hm, ⟨_, hm⟩, hb⟩
  · rw [if_neg h17]
    refine (X.decode_short s w hs (by omega)).mono ?_
    rintro e w' ⟨m, p, f, rfl, hm, hp, hpm, hb⟩
    exact ⟨1, m, rfl, by omega, lt_heap hm, ⟨_, p, hm, hpm.1, f, hp⟩, hb⟩

set_option maxHeartbeats 4000000 in
theorem lrecv_any {N B s n : Nat} {v m u : Value} {x : Ls} {w : World} (h : Lkm B s v m u n x w) (hBw : B ≤ w.heap.size) (hx : x.Ok N) (hN : N + 1000 < 4294967296) (hn : n < 1000000) (t : ByteArray) (ht : t.size ≤ 281474976710656) :
    Calls Try.prog 18 #[.pointer (some ⟨s, 0, none⟩), .string t] w fun e w' => ∃ r d z, e = .returned (.tuple #[.agg #[r, .bool d], z]) ∧ Rcp B s v m u w n x t r d z w' := by
  have H := hide1 h
  have kM := fun w' (hb : Below w.heap.size w w') => hide1 (lmade_any (h.below hb (Nat.le_refl _)) hx.own0)
  obtain ⟨P, hP⟩ : ∃ P : Value → Bool → Value → World → Prop, P = fun r d z w' => Rcp B s v m u w n x t r d z w' := ⟨_, rfl⟩
  have HP : Hid (∀ r d z w', Rcp B s v m u w n x t r d z w' → P r d z w') := fun r d z w' h => by rw [hP]; exact h
  suffices hs : Calls Try.prog 18 #[.pointer (some ⟨s, 0, none⟩), .string t] w fun e w' => ∃ r d z, e = .returned (.tuple #[.agg #[r, .bool d], z]) ∧ P r d z w' by rw [hP] at hs; exact hs
  clear hP
  by_cases hg : Good t
  · have hc0 := hg.2
    have kD := fun w => hide1 (X.decode_ok t w ht hg.1 hg.2)
    unfold X.decC at hc0
    obtain ⟨hz, hk1, hk3⟩ := X.chk_size hc0
    have ho := chk_own hc0
    have kT := fun W (hM : Lkm B s v m u n x W) (hw : B ≤ W.heap.size) => hide1 (ltake_any hM hw hx hN hn (X.hdK t) (X.hdN t 1) (X.hdN t 5) (X.hdN t 9) (X.hdN t 13) (bod t) (by omega) (by omega) (X.hdN_lt t 1) (X.hdN_lt t 9) (by rw [bod, X.body_size]; omega))
    have HG := hide1 hg
    change ∀ w, Hid (Calls Try.prog 28 #[.string t] w fun e w' => e = .returned (.tuple #[X.fra (X.hdK t) (X.hdN t 1) (X.hdN t 5) (X.hdN t 9) (X.hdN t 13) (bod t), .nilIface]) ∧ Below w.heap.size w w') at kD
    have HB := hide1 hBw
    have HTK : Hid (∀ w1 w' r d (c : Int), Tkp B s v m u w1 n x (X.hdK t) (X.hdN t 1) (X.hdN t 5) (X.hdN t 9) (X.hdN t 13) (bod t) r d c w' → d = x.recvA t ∧ c = x.recvC t ∧ Flp B s v m u w1 (n + 1) (x.recvX t) r (x.recvB t) w') := fun w1 w' r d c hh => by
      unfold Ls.recvA Ls.recvC Ls.recvX Ls.recvB
      rw [if_pos hg, if_pos hg, if_pos hg, if_pos hg]
      exact hh
    generalize X.hdK t = k at *
    generalize X.hdN t 1 = o at *
    generalize X.hdN t 5 = p at *
    generalize X.hdN t 9 = q at *
    generalize X.hdN t 13 = a at *
    generalize bod t = b at *
    unfold X.fra at *
    clear h hBw hx hN hn ht hc0 hz hk1 hk3 ho hg
    go_enter Try.func18, Try.ntmps18
    go_upto_region 1 with (fail)
    generalize hX : World.alloc w _ = W0
    have B0 : Hid (Below w.heap.size w W0) := by rw [← hX]; exact below1 _
    have R4 := hide1 (hX ▸ heap_alloc_new w _)
    obtain ⟨b4, hb4⟩ : ∃ b, w.heap.size = b := ⟨_, rfl⟩
    have HB4 := hide1 hb4
    rw [hb4] at R4 ⊢
    clear hX hb4
    have kM0 := hide1 (kM W0 B0.out).out
    clear kM
    go_wp2_with fail
    refine kM0.out.mono ?_
    rintro e w1 ⟨rfl, hw1⟩
    obtain rfl := hw1.symm
    clear kM0
    go_wp2_with fail
    refine (kD _).out.mono ?_
    rintro e W1 ⟨rfl, hb1⟩
    have B1 : Hid (Below w.heap.size w W1) := B0.out.trans (hb1.mono B0.out.size)
    have R4a := hide1 ((hb1.block b4 (lt_heap R4.out)).trans R4.out)
    clear hb1 kD B0 R4
    go_upto_region 6 with (fail)
    generalize hY : World.alloc W1 _ = W2
    have B2 : Hid (Below w.heap.size w W2) := by rw [← hY]; exact B1.out.alloc B1.out.size _
    have R6 : Hid (W2.heap[W1.heap.size]? = some (.cells #[.int .i64 (k : Int), .int .u32 (o : Int), .int .u32 (p : Int), .int .u32 (q : Int), .int .u32 (a : Int), .string b] 73 (0, 0))) := by rw [← hY]; exact heap_alloc_new _ _
    have R4b : Hid (W2.heap[b4]? = some (.cells #[.slice none 0 0, .bool false] 60 (0, 0))) := by rw [← hY]; exact (Below.heap_alloc _ _ _ (lt_heap R4a.out)).trans R4a.out
    obtain ⟨b6, hb6⟩ : ∃ g, W1.heap.size = g := ⟨_, rfl⟩
    rw [hb6] at R6 ⊢
    clear hY hb6 B1 R4a
    obtain ⟨d0, d1, d2, d3, d4, d5, _⟩ := X.box6 R6.out
    have kT2 := hide1 (kT W2 (H.out.below B2.out (Nat.le_refl _)) (by have := HB.out; have := B2.out.size; omega)).out
    clear kT
    go_wp2_with fail
    refine kT2.out.mono ?_
    rintro e W3 ⟨r, d, c, rfl, hT⟩
    obtain ⟨hd, hc, v3, m3, u3, M3, K3, F3, L3, D3⟩ := HTK.out _ _ _ _ _ hT
    have HDC := hide1 (And.intro hd hc)
    have HM3 := hide1 M3
    have HK3 := hide1 ((Kp.ofBelow B2.out).trans K3)
    have HF3 : Hid (∀ g, Lf s v3 m3 u3 g → Lf s v m u g ∨ w.heap.size ≤ g) := fun g hg => by
      rcases F3 g hg with h1 | h1
      · exact .inl h1
      · have := B2.out.size
        exact .inr (by omega)
    have HD3 : Hid (∀ g, Lf s v3 m3 u3 g → g ≠ b4) := fun g hg => by
      have h4 := lt_heap R4b.out
      have h5 := HB4.out
      rcases F3 g hg with h1 | h1
      · have := (H.out.flt h1).2
        omega
      · omega
    have HL3 := hide1 (L3.mono B2.out.size)
    have HR3 : Hid (∀ g, r.ownBlock = some g → g ≠ b4 ∧ ¬ Lf s v3 m3 u3 g) := fun g hg => by
      have h4 := lt_heap R4b.out
      have h7 := (L3.lt hg).1
      exact ⟨by omega, D3 g hg⟩
    have R4c : Hid (W3.heap[b4]? = some (.cells #[.slice none 0 0, .bool false] 60 (0, 0))) := (K3.block b4 (lt_heap R4b.out) (fun e => by have h1 := (H.out.flt e).2; have h2 := HB4.out; omega)).trans R4b.out
    obtain ⟨ra, rc, hra⟩ := L3.form
    obtain ⟨rn, hrn⟩ : ∃ rn, (x.recvB t).length = rn := ⟨_, rfl⟩
    rw [hrn] at hra
    subst hra
    clear hd hc M3 K3 F3 L3 D3 hT hrn kT2 R6 R4b B2 d0 d1 d2 d3 d4 d5
    go_upto_region 7 with (fail)
    generalize hZ : World.alloc W3 _ = W4
    have b34 : Hid (Below W3.heap.size W3 W4) := by rw [← hZ]; exact below1 _
    have R8 : Hid (W4.heap[W3.heap.size]? = some (.cells #[.slice ra rn rc, .bool d] 60 (0, 0))) := by rw [← hZ]; exact heap_alloc_new _ _
    obtain ⟨b8, hb8⟩ : ∃ g, W3.heap.size = g := ⟨_, rfl⟩
    have HB8 := hide1 hb8
    rw [hb8] at R8 ⊢
    have R4d := hide1 ((b34.out.block b4 (lt_heap R4c.out)).trans R4c.out)
    clear hZ hb8 R4c
    have kN := fun w => hide1 (fnew_any c w)
    unfold tLINK at kN
    refine region_f (F := [3]) (S := fun W => W.heap[b8]? = some (.cells #[.slice ra rn rc, .bool d] 60 (0, 0)) ∧ W.heap[b4]? = some (.cells #[.slice none 0 0, .bool false] 60 (0, 0))) (by kernel_rfl) ⟨R8.out, R4d.out⟩ (fun hS => ?_)
    have BU : Hid (Below W3.heap.size W3 (World.drew W4)) := b34.out.drew
    generalize World.drew W4 = WU at hS BU ⊢
    clear b34 R8 R4d
    refine take_f 0 31 (.agg #[.slice ra rn rc, .bool d]) [3, 4] rfl rfl (by kernel_rfl) (by kernel_rfl) (by kernel_rfl) (by kernel_rfl) (by kernel_rfl) (by kernel_rfl) (fun _ _ _ h => h) rfl (fun w hSw => by obtain ⟨g0, g1⟩ := hSw; obtain ⟨c0, c1, _, _, _⟩ := box2 g0; go_simp) hS ?_
    try simp only [List.setIfInBounds_toArray, List.set_cons_zero, List.set_cons_succ]
    refine take_p 1 32 (.int .i64 c) rfl rfl (by kernel_rfl) (by kernel_rfl) (by kernel_rfl) (fun _ _ _ h => h) rfl (fun w => by go_simp) ?_
    try simp only [List.setIfInBounds_toArray, List.set_cons_zero, List.set_cons_succ]
    refine ready_f 2 (o := { dst := some 33, op := Op.call { callee := Callee.value (Operand.func 12), args := #[Operand.tmp 32, Operand.const (Value.string { data := #[108, 105, 110, 107] })], argTypes := #[45, 9] }, type := 25, pos := "link.go:116", after := #[{ on := 1, ground := Ground.data }], guard := none }) (by kernel_rfl) rfl (fun K hK => ?_)
    go_simp
    refine (kN _).out.mono ?_
    rintro e W5 ⟨z, rfl, hE, hb5, _⟩
    refine hK.out _ _ (fun _ h => ⟨(hb5.block b8 (lt_heap h.1)).trans h.1, (hb5.block b4 (lt_heap h.2)).trans h.2⟩) ?_
    clear hK K
    try simp only [Act.put, List.setIfInBounds_toArray, List.set_cons_zero, List.set_cons_succ]
    have B5 : Hid (Below W3.heap.size W3 W5) := BU.out.trans (hb5.mono BU.out.size)
    have R4e : Hid (W5.heap[b4]? = some (.cells #[.slice none 0 0, .bool false] 60 (0, 0))) := (hb5.block b4 (lt_heap hS.2)).trans hS.2
    have HE := hide1 hE
    obtain ⟨k0, k1, q0, q1, _⟩ := box2 R4e.out
    obtain ⟨qf, _⟩ := free2 (x' := .slice ra rn rc) R4e.out
    clear hb5 hE BU hS kN
    refine ready_f 3 (o := { dst := none, op := Op.store 60 (Operand.tmp 4) (Operand.tmp 31), type := 0, pos := "link.go:116", after := #[{ on := 0, ground := Ground.data }, { on := 2, ground := Ground.chain }, { on := 0, ground := Ground.phase }, { on := 1, ground := Ground.textOnly Departure.lateStores }, { on := 2, ground := Ground.textOnly Departure.lateStoresUnsure }], guard := none }) (by kernel_rfl) rfl (fun K hK => ?_)
    go_simp
    refine hK.out _ _ (fun h => absurd (by decide) h) ?_
    clear hK K
    refine take_p 4 5 (z) rfl rfl (by kernel_rfl) (by kernel_rfl) (by kernel_rfl) (fun _ _ _ h => h) rfl (fun w => by go_simp) ?_
    try simp only [List.setIfInBounds_toArray, List.set_cons_zero, List.set_cons_succ]
    refine done_f (by kernel_rfl) ?_ _
    go_wp2
    have hk4 : Kp (fun g => g = b4) W5 ((W5.setCell ⟨b4, 0, none⟩ (.slice ra rn rc)).setCell ⟨b4, 1, none⟩ (.bool d)) := (Kp.setCell (F := fun g => g = b4) W5 b4 0 _ rfl).trans (Kp.setCell (F := fun g => g = b4) _ b4 1 _ rfl)
    have k54 : Kp (fun g => g = b4) W3 ((W5.setCell ⟨b4, 0, none⟩ (.slice ra rn rc)).setCell ⟨b4, 1, none⟩ (.bool d)) := (Kp.ofBelow B5.out).trans hk4
    refine ret_g2 Try.results18 b4 _ _ _ rfl rfl (set_box2 R4e.out) rfl ⟨_, _, _, rfl, HP.out _ _ _ _ ⟨HDC.out.1, ?_, v3, m3, u3, HM3.out.kp k54 HD3.out, ?_, HF3.out, HL3.out.kp k54 fun g hg => (HR3.out g hg).1, fun g hg => (HR3.out g hg).2⟩⟩
    · rw [← HDC.out.2]
      rcases HE.out with ⟨h1, h2⟩ | ⟨h1, p, h2, h3⟩
      · exact .inl ⟨h1, h2⟩
      · refine .inr ⟨h1, 0, p, by omega, h2, tLINK, ?_⟩
        have hp : p ≠ b4 := fun e => by
          rw [e, R4e.out] at h3
          cases h3
        exact (hk4.block p (lt_heap h3) hp).trans h3
    · exact HK3.out.join k54 fun g hg => .inr (by have := HB4.out; omega)
  · have kD := fun w => hide1 (decode_err t w ht hg)
    have hne := decC_12 t hg
    have HC : Hid (x.recvC t = if 17 ≤ t.size then X.decC t else 12) := by unfold Hid Ls.recvC; rw [if_neg hg]
    have HG := hide1 hg
    generalize (if 17 ≤ t.size then X.decC t else 12) = c at *
    have HNE := hide1 hne
    unfold X.fra at *
    clear h hBw hx hN hn ht hg hne
    go_enter Try.func18, Try.ntmps18
    go_upto_region 1 with (fail)
    generalize hX : World.alloc w _ = W0
    have B0 : Hid (Below w.heap.size w W0) := by rw [← hX]; exact below1 _
    have R4 := hide1 (hX ▸ heap_alloc_new w _)
    obtain ⟨b4, hb4⟩ : ∃ b, w.heap.size = b := ⟨_, rfl⟩
    have HB4 := hide1 hb4
    rw [hb4] at R4 ⊢
    clear hX hb4
    have kM0 := hide1 (kM W0 B0.out).out
    clear kM
    go_wp2_with fail
    refine kM0.out.mono ?_
    rintro e w1 ⟨rfl, hw1⟩
    obtain rfl := hw1.symm
    clear kM0
    go_wp2_with fail
    refine (kD _).out.mono ?_
    rintro e W1 ⟨dd, pp, rfl, hdd, hpp, hch, hb1⟩
    have B1 : Hid (Below w.heap.size w W1) := B0.out.trans (hb1.mono B0.out.size)
    have R4a := hide1 ((hb1.block b4 (lt_heap R4.out)).trans R4.out)
    have HCH := hide1 (And.intro hdd (And.intro hpp hch))
    clear hb1 kD B0 R4 hdd hpp hch
    go_upto_region 5 with (fail)
    generalize hY : World.alloc W1 _ = W2
    have B12 : Hid (Below W1.heap.size W1 W2) := by rw [← hY]; exact below1 _
    have B2 : Hid (Below w.heap.size w W2) := B1.out.trans (B12.out.mono B1.out.size)
    have R4b := hide1 ((B12.out.block b4 (lt_heap R4a.out)).trans R4a.out)
    have kW := fun w => hide1 (X.wrap_some tLINK pp w)
    unfold tLINK at kW
    clear hY B1 R4a
    go_wp2_with fail
    refine (kW _).out.mono ?_
    rintro e W3 ⟨rfl, hW3⟩
    have B3 : Hid (Below w.heap.size w W3) := by unfold Hid; rw [hW3]; exact B2.out.alloc B2.out.size _
    have B23 : Hid (Below W2.heap.size W2 W3) := by unfold Hid; rw [hW3]; exact below1 _
    have R4c := hide1 ((B23.out.block b4 (lt_heap R4b.out)).trans R4b.out)
    have HCN : Hid (Chn W3 c (dd + 1) W2.heap.size) := by
      refine ⟨_, pp, by rw [hW3]; exact heap_alloc_new _ _, ?_, Chn.same (w := W1) (fun g hg => ?_) HCH.out.2.2⟩
      · have := HCH.out.2.1
        have := B12.out.size
        omega
      · exact (B23.out.block g (by have := B12.out.size; omega)).trans (B12.out.block g hg)
    have h4lt : Hid (b4 < W2.heap.size) := lt_heap R4b.out
    clear hW3 kW R4b
    go_wp2_with (refine wpList_store_row rfl 60 (.tmp 4) (.tmp 22) rfl b4 #[.slice none 0 0, .bool false] rfl rfl 60 _ R4c.out rfl (by kernel_rfl) (by kernel_rfl) ?_)
    have hk4 : Kp (fun g => g = b4) W3 (W3.setRow b4 #[.slice none 0 0, .bool false]) := ⟨rfl, rfl, rfl, by simp [World.setRow], fun g _ hg => setRow_other W3 b4 g _ hg⟩
    have hlt : ∀ g, Lf s v m u g → g ≠ b4 := fun g hg e => by
      have h1 := (H.out.flt hg).2
      have h2 := HB4.out
      omega
    refine ret_g2 Try.results18 b4 _ _ _ rfl rfl (setRow_heap W3 b4 _ _ _ _ R4c.out) rfl ⟨_, _, _, rfl, HP.out _ _ _ _ ⟨?_, ?_, v, m, u, ?_, ?_, fun g hg => .inl hg, ?_, fun g hg => by cases hg⟩⟩
    · rw [Ls.recvA, if_neg HG.out]
    · rw [HC.out]
      exact .inr ⟨HNE.out, dd + 1, _, by have := HCH.out.1; omega, rfl, Chn.but R4c.out (fun g hg hne => hk4.block g hg hne) HCN.out⟩
    · rw [Ls.recvX, if_neg HG.out]
      exact ((H.out.below B3.out (Nat.le_refl _)).kp hk4 hlt).mono (Nat.le_succ _)
    · exact (Kp.ofBelow B3.out).join hk4 fun g hg => .inr (by have := HB4.out; omega)
    · rw [Ls.recvB, if_neg HG.out]
      exact Lst.nil _ _

end Go.Proofs.Ytcadlcpccemkbaa
