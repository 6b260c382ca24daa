/- WindowOnce: what is told is what was sent, up to somewhere. -/
import Derived.Test.YtjingknkjokldaaVaa
import Derived.Test.YtjingknkjokldaaVac
namespace Go.Proofs.Ytjingknkjokldaa
open Go.RowKit
set_option maxRecDepth 100000
attribute [local go_sem] not_any

theorem Rdl.upto {w : World} {a : Option Addr} {n c k : Nat} {A : List ByteArray} (h : Rdl w (.slice a n c) A) (hk : k ≤ A.length) : Rdl w (.slice a k c) (A.take k) := by
  obtain ⟨a', c', e, hc⟩ := h
  cases e
  have hl : (A.take k).length = k := by rw [List.length_take, Nat.min_eq_left hk]
  refine ⟨a, c, by rw [hl], fun j hj => ?_⟩
  rw [hl] at hj
  obtain ⟨g, o, e, h1⟩ := hc j (by omega)
  refine ⟨g, o, e, ?_⟩
  rw [h1]
  simp [List.getD, List.getElem?_take_of_lt hj]
theorem cut_upto (a : Option Addr) (n c k : Nat) (hk : k ≤ c) : ∃ ac, (∀ w, (Instr.slice 27 (.slice a n c) none (some (.int .i64 (k : Int))) none).run Try.prog w = .ok (.slice ac k c) w) ∧ ∀ (w : World) (A : List ByteArray), Rdl w (.slice a n c) A → k ≤ A.length → Rdl w (.slice ac k c) (A.take k) := by
  refine ⟨if c = 0 then a else a.map (·.add (0 * 1)), fun w => ?_, fun w A h hA => ?_⟩
  · rw [run_slice_h w 27 a n c (by kernel_rfl) .i64 (k : Int) (by omega) (by omega)]
    have hz : (sizeOf (Try.prog.elem 27)).run Try.prog w = .ok 1 w := Try.sizeOf9 w
    rw [hz]
    simp [Result.andThen, sliced]
  · by_cases h0 : A = []
    · subst h0
      have hk0 : k = 0 := by simpa using hA
      subst hk0
      exact ⟨_, c, rfl, fun j hj => by simp at hj⟩
    · obtain ⟨a', c', e, hc⟩ := id h
      cases e
      obtain ⟨g, o, rfl, _⟩ := hc 0 (by cases A with | nil => exact absurd rfl h0 | cons => simp)
      have e2 : (if c = 0 then some (⟨g, o, none⟩ : Addr) else (some (⟨g, o, none⟩ : Addr)).map (·.add (0 * 1))) = some ⟨g, o, none⟩ := by
        split
        · rfl
        · simp [add_plain]
      rw [e2]
      exact h.upto hA
theorem szl_take {A : List ByteArray} {n k : Nat} (h : Szl A) : Szl ((A.take n).drop k) := fun s hs => h s (List.mem_of_mem_take (List.mem_of_mem_drop hs))
theorem sz_tk {a q : Nat} {l : List (Nat × ByteArray)} {b : ByteArray} (h : Sz l) (hb : b.size ≤ 281474976710656) : Sz (tkR a l q b) := by
  unfold tkR
  split
  · intro p hp
    rcases mem_ins.1 (stR_sub hp) with rfl | hp
    · exact hb
    · exact h p hp
  · exact h

set_option maxHeartbeats 8000000 in
theorem once_main (w : World) (ab ap al : Option Addr) (M cb mp cp ml cl : Nat) (A : List ByteArray) (hR : Rdl w (.slice ab M cb) A) (hM : A.length = M) (hcb : M ≤ cb) (hz : Szl A) (hp : Bys w mp ap) (hl : Tru w ml al) :
    Calls Try.prog 5 #[.slice ab M cb, .slice ap mp cp, .slice al ml cl] w fun e w' => e = .returned (.bool true) ∧ Below w.heap.size w w' := by
  have HR := hide1 hR
  have HM := hide1 hM
  have HCB := hide1 hcb
  have HZ := hide1 hz
  have HP := hide1 hp
  have HL := hide1 hl
  clear hR hM hcb hz hp hl
  by_cases hbig : 60 < M
  · have hbi : (60 : Int) < (M : Int) := by omega
    have kA := hide1 (awake_any w)
    go_enter Try.func5, Try.ntmps5
    go_wp2_with fail
    refine kA.out.mono ?_
    rintro e w2 ⟨rfl, hb2⟩
    have HB2 := hide1 hb2
    clear hb2
    go_wp2
    go_ret
    exact ⟨rfl, HB2.out⟩
  have hbi : ¬ (60 : Int) < (M : Int) := by omega
  have ST := hide1 (On.start w)
  have SB := hide1 ((below1 (w := w) (.cells #[.int .u32 0, .slice none 0 0] 63)).alloc (by simp) (.cells #[.int .u32 0, .map none] 51))
  go_enter Try.func5, Try.ntmps5
  go_wp2_with fail
  generalize World.alloc _ _ = X at ST SB ⊢
  obtain ⟨B, hB0⟩ : ∃ B, w.heap.size = B := ⟨_, rfl⟩
  obtain ⟨t, ht0⟩ : ∃ t, w.heap.size + 1 = t := ⟨_, rfl⟩
  rw [ht0, hB0] at ST
  rw [hB0] at SB
  have HB0 := hide1 hB0
  rw [ht0, hB0]
  have hM60 : M ≤ 60 := by omega
  clear hB0 ht0 hbi hbig
  go_loopw [9, 10, 11] (fun x9 x10 x11 wr => ∃ (i n k a : Nat) (v mm gv : Value) (l : List (Nat × ByteArray)), i ≤ mp ∧ i ≤ 150 ∧ x9 = gv ∧ x10 = .int .i64 (n : Int) ∧ x11 = .int .i64 (i : Int) ∧ Wk A n k a l ∧ Sz l ∧ On B B t v mm gv k ((A.take n).drop k) a i l (A.take a) wr ∧ Below B w wr) (fun _ _ i _ => 150 - (intOf i).toNat)
  case atStart => exact ⟨0, 0, 0, 0, _, _, _, [], Nat.zero_le _, Nat.zero_le _, rfl, rfl, rfl, Wk.none A, fun p hp => (by simp at hp), by simpa using ST.out, SB.out⟩
  case round =>
    obtain ⟨i, n0, k, a, v, mm, gv, l, him, hi1, hgv, rfl, rfl, hWk, hSz, hOn, hB⟩ := hrel
    obtain rfl := hgv.symm
    have WK := hide1 hWk
    have SZ := hide1 hSz
    have ON := hide1 hOn
    have B0 := hide1 hB
    have BS : Hid (B ≤ wr.heap.size) := by have := HB0.out; have := hB.size; unfold Hid; omega
    have NB : Hid (k ≤ a ∧ a ≤ n0 ∧ n0 ≤ M ∧ n0 ≤ k + 16 ∧ M ≤ 60) := by have := HM.out; have := hWk.nM; exact ⟨hWk.ka, hWk.an, by omega, hWk.win, hM60⟩
    have SL : Hid (((A.take n0).drop k).length = n0 - k) := sent_len hWk.nM
    by_cases hend : i < mp ∧ i < 150
    · obtain ⟨him', hi150⟩ := hend
      have hi150i : (i : Int) < 150 := by omega
      have himi : (i : Int) < (mp : Int) := by omega
      obtain ⟨gp, op, x, rfl, hx, hpc⟩ := HP.out i him'
      have PC : Hid (∀ W, Below B w W → W.cell? ⟨gp, op + i, none⟩ = some (.int .u8 (x : Int))) := fun W hW => (hW.cell (p := ⟨gp, op + i, none⟩) (by have := block_lt_of_cell hpc; have := HB0.out; simp only at *; omega)).trans hpc
      have RB : Hid (∀ W, Below B w W → Rdl W (.slice ab M cb) A) := fun W hW => HR.out.below hW (by have := HB0.out; omega)
      have kRm := hide1 (room_any hOn.ot (by have := SL.out; have := NB.out; omega))
      rw [SL.out] at kRm
      have HX := hide1 hx
      clear hWk hSz hOn hpc hx hgv
      by_cases hnM : n0 < M
      · have hnMi : (n0 : Int) < (M : Int) := by omega
        by_cases hrm : n0 - k < 16
        · skip
          obtain ⟨rm, hrm'⟩ : ∃ r, 16 - (n0 - k) = r := ⟨_, rfl⟩
          rw [hrm'] at kRm
          have hr0 : (0 : Int) < (rm : Int) := by omega
          obtain ⟨ab', cb', e1, hc1⟩ := RB.out wr hB
          rw [HM.out] at e1
          cases e1
          obtain ⟨gb, ob, rfl, kb⟩ := hc1 n0 (by have := HM.out; omega)
          have hsz : (A.getD n0 ByteArray.empty).size ≤ 281474976710656 := HZ.out _ (by rw [List.getD, List.getElem?_eq_getElem (by have := HM.out; omega)]; simp)
          have SP := hide1 (sent_put (A := A) (n := n0) (k := k) (by have := HM.out; omega) (by have := NB.out; omega))
          have kP := hide1 (put_ok ON.out.ot BS.out (by have := SL.out; have := NB.out; omega) (by have := SL.out; omega) _ hsz (by unfold ptC; have h1 := SL.out; have h2 := NB.out; rw [h1, if_neg (by omega), if_neg (by omega)]))
          rw [SP.out] at kP
          generalize A.getD n0 ByteArray.empty = bd at kb hsz kP
          generalize k + ((A.take n0).drop k).length + 1 = N1 at kP
          have W1K := hide1 (WK.out.put (by have := HM.out; omega) (by omega))
          obtain ⟨n, hn⟩ : ∃ n, n0 + 1 = n := ⟨_, rfl⟩
          rw [hn] at W1K kP
          have hni : (n0 : Int) + 1 = (n : Int) := by omega
          have HNI := hide1 hni
          clear hc1 hrm' hsz hni hB
          go_wp2_with fail
          refine kRm.out.mono ?_
          rintro e w9 ⟨rfl, hw9⟩
          obtain rfl := hw9.symm
          go_wp2_with fail
          refine kP.out.mono ?_
          rintro e W1 ⟨v1, rfl, hO1, hK1, hF1⟩
          have TT := hide1 (ON.out.sent BS.out hO1 hK1 hF1)
          have B1 : Hid (Below B w W1) := B0.out.trans TT.out.2
          have BS1 : Hid (B ≤ W1.heap.size) := by have := BS.out; have := hK1.size; unfold Hid; omega
          have ON1 := hide1 TT.out.1
          clear hO1 hK1 hF1 TT kRm kP kb
          go_wp2_with fail
          rw [HNI.out]
          clear WK ON B0 BS NB SL SP HNI hn
          have NB1 : Hid (k ≤ a ∧ a ≤ n ∧ n ≤ M ∧ n ≤ k + 16 ∧ M ≤ 60) := by have := HM.out; have := W1K.out.nM; exact ⟨W1K.out.ka, W1K.out.an, by omega, W1K.out.win, hM60⟩
          have SL1 : Hid (((A.take n).drop k).length = n - k) := sent_len W1K.out.nM
          have kQ := hide1 (pending_any ON1.out.ot (by have h1 := SL1.out; have h2 := NB1.out; omega) (by have h1 := SL1.out; have h2 := NB1.out; omega) (szl_take HZ.out))
          refine kQ.out.mono ?_
          rintro e W2 ⟨z, rfl, hz, hb2⟩
          have ON2 := hide1 (ON1.out.below hb2)
          have B2 : Hid (Below B w W2) := B1.out.trans (hb2.mono BS1.out)
          have BS2 : Hid (B ≤ W2.heap.size) := by have := BS1.out; have := hb2.size; unfold Hid; omega
          obtain ⟨za, zc, hz9⟩ := hz.form
          obtain ⟨ns, hns⟩ : ∃ ns, n - k = ns := ⟨_, rfl⟩
          have PL : Hid ((pend (k + 1) ((A.take n).drop k)).length = ns) := by unfold Hid; rw [pend_length, SL1.out, hns]
          rw [PL.out] at hz9
          have HZL := hide1 hz.rd
          subst hz9
          have HNS := hide1 hns
          clear hz hb2 hns kQ ON1 B1 BS1
          by_cases hns0 : ns = 0
          · subst hns0
            have FIN : Hid (∃ (i' n' k a : Nat) (v mm gv' : Value) (l : List (Nat × ByteArray)), i' ≤ mp ∧ i' ≤ 150 ∧ gv = gv' ∧ Value.int .i64 (n : Int) = .int .i64 (n' : Int) ∧ Value.int .i64 ((i : Int) + 1) = .int .i64 (i' : Int) ∧ Wk A n' k a l ∧ Sz l ∧ On B B t v mm gv' k ((A.take n').drop k) a i' l (A.take a) W2 ∧ Below B w W2) := ⟨i + 1, n, k, a, v1, mm, gv, l, by omega, by omega, rfl, rfl, by go_num, W1K.out, SZ.out, ⟨ON2.out.ot, ON2.out.inm.mono (by omega), ON2.out.gl, ON2.out.bs, ON2.out.bt, ON2.out.bm, ON2.out.d1, ON2.out.d2, ON2.out.d3⟩, B2.out⟩
            go_wp2
            exact ⟨FIN.out, by simp [intOf]; omega⟩
          · obtain ⟨p, hp⟩ : ∃ p, x % ns = p := ⟨_, rfl⟩
            have hpn : p < ns := by rw [← hp]; exact Nat.mod_lt _ (by omega)
            have hnsb : ((ns : Int) == 0) = false := by simp [hns0]
            have hrem : (x : Int) % (ns : Int) = (p : Int) := by rw [← hp]; exact (Int.natCast_emod x ns).symm
            have hremt : Int.tmod (x : Int) (ns : Int) = (p : Int) := by rw [Int.tmod_eq_emod_of_nonneg (by omega)]; exact hrem
            have hpi : (p : Int) < (ns : Int) := by omega
            have hnsi : ¬ (ns : Int) = 0 := by omega
            obtain ⟨za', zc', e1, hzc⟩ := id HZL.out
            rw [PL.out] at e1
            cases e1
            obtain ⟨gz, oz, rfl, kz1, kz2⟩ := hzc p (by have := PL.out; omega)
            obtain ⟨pa1, pa2⟩ := pend_at (k + 1) ((A.take n).drop k) p (by have h1 := SL1.out; have h2 := HNS.out; omega)
            rw [pa1] at kz1
            rw [pa2] at kz2
            have HB3 := hide1 (sent_at (A := A) (n := n) (k := k) (p := p) W1K.out.nM (by have := HNS.out; omega))
            have hsz2 : (((A.take n).drop k).getD p ByteArray.empty).size ≤ 281474976710656 := szl_take (n := n) (k := k) HZ.out _ (by rw [List.getD, List.getElem?_eq_getElem (by have h1 := SL1.out; have h2 := HNS.out; omega)]; exact List.getElem_mem _)
            generalize ((A.take n).drop k).getD p ByteArray.empty = ss at kz2 HB3 hsz2
            obtain ⟨wt1, wt2, wt3⟩ := W1K.out.take (p := p) (by have := HNS.out; omega) HB3.out
            obtain ⟨kk, hkk⟩ : ∃ kk, k + 1 + p = kk := ⟨_, rfl⟩
            rw [hkk] at kz1 wt1 wt2 wt3
            have PCx := PC.out W2 B2.out
            have bb := hide1 (below1 (w := W2) (.cells #[.int .u32 (kk : Int), .string ss] 65))
            have ON3 := hide1 (ON2.out.below bb.out)
            have B3 : Hid (Below B w (W2.alloc (.cells #[.int .u32 (kk : Int), .string ss] 65))) := B2.out.trans (bb.out.mono BS2.out)
            have BS3 : Hid (B ≤ (W2.alloc (.cells #[.int .u32 (kk : Int), .string ss] 65)).heap.size) := by have := BS2.out; have := bb.out.size; unfold Hid; omega
            have hkb : kk < 4294967296 := by have h1 := HNS.out; have h2 := NB1.out; omega
            have kT := hide1 (take_any ON3.out.inm W1K.out.hd (by have h2 := NB1.out; omega) kk hkb ss hsz2 (by omega))
            have SZ4 := hide1 (sz_tk (a := a) (q := kk) SZ.out hsz2)
            generalize hO4 : tkO a l kk ss = O4 at kT wt3
            have O4L : Hid (O4.length ≤ 16) := by rw [← hO4]; exact tkO_len W1K.out.hd
            generalize tkA a l kk ss = a4 at kT wt2 wt3
            generalize tkR a l kk ss = l4 at kT wt2 SZ4
            generalize chkC a (lk l) kk = C4 at kT wt1
            have WT1 := hide1 wt1
            have WT2 := hide1 wt2
            have WT3 := hide1 wt3
            have hxi : (x : Int) < 256 := by have := HX.out; omega
            clear hO4 wt1 wt2 wt3 hp hkk pa1 pa2 hzc hsz2 hkb hns0 hpn
            go_wp2_with fail
            refine kT.out.mono ?_
            rintro e W4 ⟨v4, m4, rfl, hL4, hI4, hK4, hF4⟩
            have T4 := hide1 (ON3.out.came BS3.out hI4 hK4 hF4)
            have B4 : Hid (Below B w W4) := B3.out.trans T4.out.2
            have BS4 : Hid (B ≤ W4.heap.size) := by have := BS3.out; have := hK4.size; unfold Hid; omega
            have ON4 := hide1 T4.out.1
            have L4 := hide1 hL4.rd
            have LE4 : Hid ((A.take a).length + O4.length ≤ 1000000) := by have h1 := O4L.out; have h2 := NB1.out; unfold Hid; rw [List.length_take]; omega
            clear hL4 hI4 hK4 hF4 T4 kT ON3 B3 BS3 bb ON2 B2 BS2 HZL PCx kz1 kz2 hrem hremt hpi hnsi hnsb
            by_cases hil : i < ml
            · have hili : ¬ (ml : Int) ≤ (i : Int) := by omega
              obtain ⟨gl, ol, y, rfl, hlc⟩ := HL.out i hil
              have LC : Hid (∀ W, Below B w W → W.cell? ⟨gl, ol + i, none⟩ = some (.bool y)) := fun W hW => (hW.cell (p := ⟨gl, ol + i, none⟩) (by have := block_lt_of_cell hlc; have := HB0.out; simp only at *; omega)).trans hlc
              clear hlc
              cases y
              · rcases WT1.out with rfl | rfl
                all_goals
                  go_wp2_with (at_builtin; go_must (refine wpList_append_lst rfl _ _ rfl rfl rfl ON4.out.gl L4.out LE4.out BS4.out ?_); intro gv5 W5 ho hg hf; rw [WT3.out] at ho; have T5 := hide1 (ON4.out.told BS4.out ho hg hf); have B5 : Hid (Below B w W5) := B4.out.trans T5.out.2; have ON5 := hide1 T5.out.1; have BS5 : Hid (B ≤ W5.heap.size) := (by have h1 := BS4.out; have h2 := hg.size; unfold Hid; omega); have lc := LC.out W5 B5.out; clear ho hg hf T5)
                  have kW := hide1 (awaited_any ON5.out.inm (by have h1 := WT2.out.an; have h2 := NB1.out; omega))
                  obtain ⟨ak1, ak2, ak3, ak4⟩ := WT2.out.ack
                  have kC := hide1 (ack_any ON5.out.ot (by rw [SL1.out]; have h2 := NB1.out; omega) (a4 + 1))
                  rw [ak1, ak2, ak3] at kC
                  have AK4 := hide1 ak4
                  obtain ⟨a5, ha5⟩ : ∃ a5, a4 + 1 = a5 := ⟨_, rfl⟩
                  rw [ha5] at kW kC
                  clear ak1 ak2 ak3 ak4 ha5
                  refine kW.out.mono ?_
                  rintro e w6 ⟨rfl, hw6⟩
                  obtain rfl := hw6.symm
                  go_wp2_with fail
                  refine kC.out.mono ?_
                  rintro e W6 ⟨v6, rfl, hO6, hK6, hF6⟩
                  have T6 := hide1 (ON5.out.sent BS5.out hO6 hK6 hF6)
                  have FIN : Hid (∃ (i' n' k a : Nat) (v mm gv' : Value) (l : List (Nat × ByteArray)), i' ≤ mp ∧ i' ≤ 150 ∧ gv5 = gv' ∧ Value.int .i64 (n : Int) = .int .i64 (n' : Int) ∧ Value.int .i64 ((i : Int) + 1) = .int .i64 (i' : Int) ∧ Wk A n' k a l ∧ Sz l ∧ On B B t v mm gv' k ((A.take n').drop k) a i' l (A.take a) W6 ∧ Below B w W6) := ⟨i + 1, n, a4, a4, v6, m4, gv5, l4, by omega, by omega, rfl, rfl, by go_num, AK4.out, SZ4.out, T6.out.1, B5.out.trans T6.out.2⟩
                  clear hO6 hK6 hF6 T6 kW kC
                  go_wp2
                  exact ⟨FIN.out, by simp [intOf]; omega⟩
              · rcases WT1.out with rfl | rfl
                all_goals
                  go_wp2_with (at_builtin; go_must (refine wpList_append_lst rfl _ _ rfl rfl rfl ON4.out.gl L4.out LE4.out BS4.out ?_); intro gv5 W5 ho hg hf; rw [WT3.out] at ho; have T5 := hide1 (ON4.out.told BS4.out ho hg hf); have B5 : Hid (Below B w W5) := B4.out.trans T5.out.2; have ON5 := hide1 T5.out.1; have BS5 : Hid (B ≤ W5.heap.size) := (by have h1 := BS4.out; have h2 := hg.size; unfold Hid; omega); have lc := LC.out W5 B5.out; clear ho hg hf T5)
                  have FIN : Hid (∃ (i' n' k a : Nat) (v mm gv' : Value) (l : List (Nat × ByteArray)), i' ≤ mp ∧ i' ≤ 150 ∧ gv5 = gv' ∧ Value.int .i64 (n : Int) = .int .i64 (n' : Int) ∧ Value.int .i64 ((i : Int) + 1) = .int .i64 (i' : Int) ∧ Wk A n' k a l ∧ Sz l ∧ On B B t v mm gv' k ((A.take n').drop k) a i' l (A.take a) W5 ∧ Below B w W5) := ⟨i + 1, n, k, a4, v1, m4, gv5, l4, by omega, by omega, rfl, rfl, by go_num, WT2.out, SZ4.out, ON5.out, B5.out⟩
                  exact ⟨FIN.out, by simp [intOf]; omega⟩
            · have hili : (ml : Int) ≤ (i : Int) := by omega
              rcases WT1.out with rfl | rfl
              all_goals
                go_wp2_with (at_builtin; go_must (refine wpList_append_lst rfl _ _ rfl rfl rfl ON4.out.gl L4.out LE4.out BS4.out ?_); intro gv5 W5 ho hg hf; rw [WT3.out] at ho; have T5 := hide1 (ON4.out.told BS4.out ho hg hf); have B5 : Hid (Below B w W5) := B4.out.trans T5.out.2; have ON5 := hide1 T5.out.1; have BS5 : Hid (B ≤ W5.heap.size) := (by have h1 := BS4.out; have h2 := hg.size; unfold Hid; omega); clear ho hg hf T5)
                have kW := hide1 (awaited_any ON5.out.inm (by have h1 := WT2.out.an; have h2 := NB1.out; omega))
                obtain ⟨ak1, ak2, ak3, ak4⟩ := WT2.out.ack
                have kC := hide1 (ack_any ON5.out.ot (by rw [SL1.out]; have h2 := NB1.out; omega) (a4 + 1))
                rw [ak1, ak2, ak3] at kC
                have AK4 := hide1 ak4
                obtain ⟨a5, ha5⟩ : ∃ a5, a4 + 1 = a5 := ⟨_, rfl⟩
                rw [ha5] at kW kC
                clear ak1 ak2 ak3 ak4 ha5
                refine kW.out.mono ?_
                rintro e w6 ⟨rfl, hw6⟩
                obtain rfl := hw6.symm
                go_wp2_with fail
                refine kC.out.mono ?_
                rintro e W6 ⟨v6, rfl, hO6, hK6, hF6⟩
                have T6 := hide1 (ON5.out.sent BS5.out hO6 hK6 hF6)
                have FIN : Hid (∃ (i' n' k a : Nat) (v mm gv' : Value) (l : List (Nat × ByteArray)), i' ≤ mp ∧ i' ≤ 150 ∧ gv5 = gv' ∧ Value.int .i64 (n : Int) = .int .i64 (n' : Int) ∧ Value.int .i64 ((i : Int) + 1) = .int .i64 (i' : Int) ∧ Wk A n' k a l ∧ Sz l ∧ On B B t v mm gv' k ((A.take n').drop k) a i' l (A.take a) W6 ∧ Below B w W6) := ⟨i + 1, n, a4, a4, v6, m4, gv5, l4, by omega, by omega, rfl, rfl, by go_num, AK4.out, SZ4.out, T6.out.1, B5.out.trans T6.out.2⟩
                clear hO6 hK6 hF6 T6 kW kC
                go_wp2
                exact ⟨FIN.out, by simp [intOf]; omega⟩
        · skip
          have hr0 : 16 - (n0 - k) = 0 := by have := NB.out; omega
          rw [hr0] at kRm
          clear hr0 hB
          go_wp2_with fail
          refine kRm.out.mono ?_
          rintro e w9 ⟨rfl, hw9⟩
          obtain rfl := hw9.symm
          go_wp2_with fail
          have W1K := WK
          have B1 := B0
          have BS1 := BS
          have ON1 := ON
          obtain ⟨n, hn⟩ : ∃ n, n = n0 := ⟨_, rfl⟩
          obtain ⟨W1, hW1⟩ : ∃ W1, W1 = wr := ⟨_, rfl⟩
          obtain ⟨v1, hv1⟩ : ∃ v1, v1 = v := ⟨_, rfl⟩
          subst hn hW1 hv1
          clear WK ON B0 BS NB SL kRm
          have NB1 : Hid (k ≤ a ∧ a ≤ n ∧ n ≤ M ∧ n ≤ k + 16 ∧ M ≤ 60) := by have := HM.out; have := W1K.out.nM; exact ⟨W1K.out.ka, W1K.out.an, by omega, W1K.out.win, hM60⟩
          have SL1 : Hid (((A.take n).drop k).length = n - k) := sent_len W1K.out.nM
          have kQ := hide1 (pending_any ON1.out.ot (by have h1 := SL1.out; have h2 := NB1.out; omega) (by have h1 := SL1.out; have h2 := NB1.out; omega) (szl_take HZ.out))
          refine kQ.out.mono ?_
          rintro e W2 ⟨z, rfl, hz, hb2⟩
          have ON2 := hide1 (ON1.out.below hb2)
          have B2 : Hid (Below B w W2) := B1.out.trans (hb2.mono BS1.out)
          have BS2 : Hid (B ≤ W2.heap.size) := by have := BS1.out; have := hb2.size; unfold Hid; omega
          obtain ⟨za, zc, hz9⟩ := hz.form
          obtain ⟨ns, hns⟩ : ∃ ns, n - k = ns := ⟨_, rfl⟩
          have PL : Hid ((pend (k + 1) ((A.take n).drop k)).length = ns) := by unfold Hid; rw [pend_length, SL1.out, hns]
          rw [PL.out] at hz9
          have HZL := hide1 hz.rd
          subst hz9
          have HNS := hide1 hns
          clear hz hb2 hns kQ ON1 B1 BS1
          by_cases hns0 : ns = 0
          · subst hns0
            have FIN : Hid (∃ (i' n' k a : Nat) (v mm gv' : Value) (l : List (Nat × ByteArray)), i' ≤ mp ∧ i' ≤ 150 ∧ gv = gv' ∧ Value.int .i64 (n : Int) = .int .i64 (n' : Int) ∧ Value.int .i64 ((i : Int) + 1) = .int .i64 (i' : Int) ∧ Wk A n' k a l ∧ Sz l ∧ On B B t v mm gv' k ((A.take n').drop k) a i' l (A.take a) W2 ∧ Below B w W2) := ⟨i + 1, n, k, a, v1, mm, gv, l, by omega, by omega, rfl, rfl, by go_num, W1K.out, SZ.out, ⟨ON2.out.ot, ON2.out.inm.mono (by omega), ON2.out.gl, ON2.out.bs, ON2.out.bt, ON2.out.bm, ON2.out.d1, ON2.out.d2, ON2.out.d3⟩, B2.out⟩
            go_wp2
            exact ⟨FIN.out, by simp [intOf]; omega⟩
          · obtain ⟨p, hp⟩ : ∃ p, x % ns = p := ⟨_, rfl⟩
            have hpn : p < ns := by rw [← hp]; exact Nat.mod_lt _ (by omega)
            have hnsb : ((ns : Int) == 0) = false := by simp [hns0]
            have hrem : (x : Int) % (ns : Int) = (p : Int) := by rw [← hp]; exact (Int.natCast_emod x ns).symm
            have hremt : Int.tmod (x : Int) (ns : Int) = (p : Int) := by rw [Int.tmod_eq_emod_of_nonneg (by omega)]; exact hrem
            have hpi : (p : Int) < (ns : Int) := by omega
            have hnsi : ¬ (ns : Int) = 0 := by omega
            obtain ⟨za', zc', e1, hzc⟩ := id HZL.out
            rw [PL.out] at e1
            cases e1
            obtain ⟨gz, oz, rfl, kz1, kz2⟩ := hzc p (by have := PL.out; omega)
            obtain ⟨pa1, pa2⟩ := pend_at (k + 1) ((A.take n).drop k) p (by have h1 := SL1.out; have h2 := HNS.out; omega)
            rw [pa1] at kz1
            rw [pa2] at kz2
            have HB3 := hide1 (sent_at (A := A) (n := n) (k := k) (p := p) W1K.out.nM (by have := HNS.out; omega))
            have hsz2 : (((A.take n).drop k).getD p ByteArray.empty).size ≤ 281474976710656 := szl_take (n := n) (k := k) HZ.out _ (by rw [List.getD, List.getElem?_eq_getElem (by have h1 := SL1.out; have h2 := HNS.out; omega)]; exact List.getElem_mem _)
            generalize ((A.take n).drop k).getD p ByteArray.empty = ss at kz2 HB3 hsz2
            obtain ⟨wt1, wt2, wt3⟩ := W1K.out.take (p := p) (by have := HNS.out; omega) HB3.out
            obtain ⟨kk, hkk⟩ : ∃ kk, k + 1 + p = kk := ⟨_, rfl⟩
            rw [hkk] at kz1 wt1 wt2 wt3
            have PCx := PC.out W2 B2.out
            have bb := hide1 (below1 (w := W2) (.cells #[.int .u32 (kk : Int), .string ss] 65))
            have ON3 := hide1 (ON2.out.below bb.out)
            have B3 : Hid (Below B w (W2.alloc (.cells #[.int .u32 (kk : Int), .string ss] 65))) := B2.out.trans (bb.out.mono BS2.out)
            have BS3 : Hid (B ≤ (W2.alloc (.cells #[.int .u32 (kk : Int), .string ss] 65)).heap.size) := by have := BS2.out; have := bb.out.size; unfold Hid; omega
            have hkb : kk < 4294967296 := by have h1 := HNS.out; have h2 := NB1.out; omega
            have kT := hide1 (take_any ON3.out.inm W1K.out.hd (by have h2 := NB1.out; omega) kk hkb ss hsz2 (by omega))
            have SZ4 := hide1 (sz_tk (a := a) (q := kk) SZ.out hsz2)
            generalize hO4 : tkO a l kk ss = O4 at kT wt3
            have O4L : Hid (O4.length ≤ 16) := by rw [← hO4]; exact tkO_len W1K.out.hd
            generalize tkA a l kk ss = a4 at kT wt2 wt3
            generalize tkR a l kk ss = l4 at kT wt2 SZ4
            generalize chkC a (lk l) kk = C4 at kT wt1
            have WT1 := hide1 wt1
            have WT2 := hide1 wt2
            have WT3 := hide1 wt3
            have hxi : (x : Int) < 256 := by have := HX.out; omega
            clear hO4 wt1 wt2 wt3 hp hkk pa1 pa2 hzc hsz2 hkb hns0 hpn
            go_wp2_with fail
            refine kT.out.mono ?_
            rintro e W4 ⟨v4, m4, rfl, hL4, hI4, hK4, hF4⟩
            have T4 := hide1 (ON3.out.came BS3.out hI4 hK4 hF4)
            have B4 : Hid (Below B w W4) := B3.out.trans T4.out.2
            have BS4 : Hid (B ≤ W4.heap.size) := by have := BS3.out; have := hK4.size; unfold Hid; omega
            have ON4 := hide1 T4.out.1
            have L4 := hide1 hL4.rd
            have LE4 : Hid ((A.take a).length + O4.length ≤ 1000000) := by have h1 := O4L.out; have h2 := NB1.out; unfold Hid; rw [List.length_take]; omega
            clear hL4 hI4 hK4 hF4 T4 kT ON3 B3 BS3 bb ON2 B2 BS2 HZL PCx kz1 kz2 hrem hremt hpi hnsi hnsb
            by_cases hil : i < ml
            · have hili : ¬ (ml : Int) ≤ (i : Int) := by omega
              obtain ⟨gl, ol, y, rfl, hlc⟩ := HL.out i hil
              have LC : Hid (∀ W, Below B w W → W.cell? ⟨gl, ol + i, none⟩ = some (.bool y)) := fun W hW => (hW.cell (p := ⟨gl, ol + i, none⟩) (by have := block_lt_of_cell hlc; have := HB0.out; simp only at *; omega)).trans hlc
              clear hlc
              cases y
              · rcases WT1.out with rfl | rfl
                all_goals
                  go_wp2_with (at_builtin; go_must (refine wpList_append_lst rfl _ _ rfl rfl rfl ON4.out.gl L4.out LE4.out BS4.out ?_); intro gv5 W5 ho hg hf; rw [WT3.out] at ho; have T5 := hide1 (ON4.out.told BS4.out ho hg hf); have B5 : Hid (Below B w W5) := B4.out.trans T5.out.2; have ON5 := hide1 T5.out.1; have BS5 : Hid (B ≤ W5.heap.size) := (by have h1 := BS4.out; have h2 := hg.size; unfold Hid; omega); have lc := LC.out W5 B5.out; clear ho hg hf T5)
                  have kW := hide1 (awaited_any ON5.out.inm (by have h1 := WT2.out.an; have h2 := NB1.out; omega))
                  obtain ⟨ak1, ak2, ak3, ak4⟩ := WT2.out.ack
                  have kC := hide1 (ack_any ON5.out.ot (by rw [SL1.out]; have h2 := NB1.out; omega) (a4 + 1))
                  rw [ak1, ak2, ak3] at kC
                  have AK4 := hide1 ak4
                  obtain ⟨a5, ha5⟩ : ∃ a5, a4 + 1 = a5 := ⟨_, rfl⟩
                  rw [ha5] at kW kC
                  clear ak1 ak2 ak3 ak4 ha5
                  refine kW.out.mono ?_
                  rintro e w6 ⟨rfl, hw6⟩
                  obtain rfl := hw6.symm
                  go_wp2_with fail
                  refine kC.out.mono ?_
                  rintro e W6 ⟨v6, rfl, hO6, hK6, hF6⟩
                  have T6 := hide1 (ON5.out.sent BS5.out hO6 hK6 hF6)
                  have FIN : Hid (∃ (i' n' k a : Nat) (v mm gv' : Value) (l : List (Nat × ByteArray)), i' ≤ mp ∧ i' ≤ 150 ∧ gv5 = gv' ∧ Value.int .i64 (n : Int) = .int .i64 (n' : Int) ∧ Value.int .i64 ((i : Int) + 1) = .int .i64 (i' : Int) ∧ Wk A n' k a l ∧ Sz l ∧ On B B t v mm gv' k ((A.take n').drop k) a i' l (A.take a) W6 ∧ Below B w W6) := ⟨i + 1, n, a4, a4, v6, m4, gv5, l4, by omega, by omega, rfl, rfl, by go_num, AK4.out, SZ4.out, T6.out.1, B5.out.trans T6.out.2⟩
                  clear hO6 hK6 hF6 T6 kW kC
                  go_wp2
                  exact ⟨FIN.out, by simp [intOf]; omega⟩
              · rcases WT1.out with rfl | rfl
                all_goals
                  go_wp2_with (at_builtin; go_must (refine wpList_append_lst rfl _ _ rfl rfl rfl ON4.out.gl L4.out LE4.out BS4.out ?_); intro gv5 W5 ho hg hf; rw [WT3.out] at ho; have T5 := hide1 (ON4.out.told BS4.out ho hg hf); have B5 : Hid (Below B w W5) := B4.out.trans T5.out.2; have ON5 := hide1 T5.out.1; have BS5 : Hid (B ≤ W5.heap.size) := (by have h1 := BS4.out; have h2 := hg.size; unfold Hid; omega); have lc := LC.out W5 B5.out; clear ho hg hf T5)
                  have FIN : Hid (∃ (i' n' k a : Nat) (v mm gv' : Value) (l : List (Nat × ByteArray)), i' ≤ mp ∧ i' ≤ 150 ∧ gv5 = gv' ∧ Value.int .i64 (n : Int) = .int .i64 (n' : Int) ∧ Value.int .i64 ((i : Int) + 1) = .int .i64 (i' : Int) ∧ Wk A n' k a l ∧ Sz l ∧ On B B t v mm gv' k ((A.take n').drop k) a i' l (A.take a) W5 ∧ Below B w W5) := ⟨i + 1, n, k, a4, v1, m4, gv5, l4, by omega, by omega, rfl, rfl, by go_num, WT2.out, SZ4.out, ON5.out, B5.out⟩
                  exact ⟨FIN.out, by simp [intOf]; omega⟩
            · have hili : (ml : Int) ≤ (i : Int) := by omega
              rcases WT1.out with rfl | rfl
              all_goals
                go_wp2_with (at_builtin; go_must (refine wpList_append_lst rfl _ _ rfl rfl rfl ON4.out.gl L4.out LE4.out BS4.out ?_); intro gv5 W5 ho hg hf; rw [WT3.out] at ho; have T5 := hide1 (ON4.out.told BS4.out ho hg hf); have B5 : Hid (Below B w W5) := B4.out.trans T5.out.2; have ON5 := hide1 T5.out.1; have BS5 : Hid (B ≤ W5.heap.size) := (by have h1 := BS4.out; have h2 := hg.size; unfold Hid; omega); clear ho hg hf T5)
                have kW := hide1 (awaited_any ON5.out.inm (by have h1 := WT2.out.an; have h2 := NB1.out; omega))
                obtain ⟨ak1, ak2, ak3, ak4⟩ := WT2.out.ack
                have kC := hide1 (ack_any ON5.out.ot (by rw [SL1.out]; have h2 := NB1.out; omega) (a4 + 1))
                rw [ak1, ak2, ak3] at kC
                have AK4 := hide1 ak4
                obtain ⟨a5, ha5⟩ : ∃ a5, a4 + 1 = a5 := ⟨_, rfl⟩
                rw [ha5] at kW kC
                clear ak1 ak2 ak3 ak4 ha5
                refine kW.out.mono ?_
                rintro e w6 ⟨rfl, hw6⟩
                obtain rfl := hw6.symm
                go_wp2_with fail
                refine kC.out.mono ?_
                rintro e W6 ⟨v6, rfl, hO6, hK6, hF6⟩
                have T6 := hide1 (ON5.out.sent BS5.out hO6 hK6 hF6)
                have FIN : Hid (∃ (i' n' k a : Nat) (v mm gv' : Value) (l : List (Nat × ByteArray)), i' ≤ mp ∧ i' ≤ 150 ∧ gv5 = gv' ∧ Value.int .i64 (n : Int) = .int .i64 (n' : Int) ∧ Value.int .i64 ((i : Int) + 1) = .int .i64 (i' : Int) ∧ Wk A n' k a l ∧ Sz l ∧ On B B t v mm gv' k ((A.take n').drop k) a i' l (A.take a) W6 ∧ Below B w W6) := ⟨i + 1, n, a4, a4, v6, m4, gv5, l4, by omega, by omega, rfl, rfl, by go_num, AK4.out, SZ4.out, T6.out.1, B5.out.trans T6.out.2⟩
                clear hO6 hK6 hF6 T6 kW kC
                go_wp2
                exact ⟨FIN.out, by simp [intOf]; omega⟩
      · skip
        have hnMi : ¬ (n0 : Int) < (M : Int) := by omega
        clear kRm hB
        go_wp2_with fail
        have W1K := WK
        have B1 := B0
        have BS1 := BS
        have ON1 := ON
        obtain ⟨n, hn⟩ : ∃ n, n = n0 := ⟨_, rfl⟩
        obtain ⟨W1, hW1⟩ : ∃ W1, W1 = wr := ⟨_, rfl⟩
        obtain ⟨v1, hv1⟩ : ∃ v1, v1 = v := ⟨_, rfl⟩
        subst hn hW1 hv1
        clear WK ON B0 BS NB SL
        have NB1 : Hid (k ≤ a ∧ a ≤ n ∧ n ≤ M ∧ n ≤ k + 16 ∧ M ≤ 60) := by have := HM.out; have := W1K.out.nM; exact ⟨W1K.out.ka, W1K.out.an, by omega, W1K.out.win, hM60⟩
        have SL1 : Hid (((A.take n).drop k).length = n - k) := sent_len W1K.out.nM
        have kQ := hide1 (pending_any ON1.out.ot (by have h1 := SL1.out; have h2 := NB1.out; omega) (by have h1 := SL1.out; have h2 := NB1.out; omega) (szl_take HZ.out))
        refine kQ.out.mono ?_
        rintro e W2 ⟨z, rfl, hz, hb2⟩
        have ON2 := hide1 (ON1.out.below hb2)
        have B2 : Hid (Below B w W2) := B1.out.trans (hb2.mono BS1.out)
        have BS2 : Hid (B ≤ W2.heap.size) := by have := BS1.out; have := hb2.size; unfold Hid; omega
        obtain ⟨za, zc, hz9⟩ := hz.form
        obtain ⟨ns, hns⟩ : ∃ ns, n - k = ns := ⟨_, rfl⟩
        have PL : Hid ((pend (k + 1) ((A.take n).drop k)).length = ns) := by unfold Hid; rw [pend_length, SL1.out, hns]
        rw [PL.out] at hz9
        have HZL := hide1 hz.rd
        subst hz9
        have HNS := hide1 hns
        clear hz hb2 hns kQ ON1 B1 BS1
        by_cases hns0 : ns = 0
        · subst hns0
          have FIN : Hid (∃ (i' n' k a : Nat) (v mm gv' : Value) (l : List (Nat × ByteArray)), i' ≤ mp ∧ i' ≤ 150 ∧ gv = gv' ∧ Value.int .i64 (n : Int) = .int .i64 (n' : Int) ∧ Value.int .i64 ((i : Int) + 1) = .int .i64 (i' : Int) ∧ Wk A n' k a l ∧ Sz l ∧ On B B t v mm gv' k ((A.take n').drop k) a i' l (A.take a) W2 ∧ Below B w W2) := ⟨i + 1, n, k, a, v1, mm, gv, l, by omega, by omega, rfl, rfl, by go_num, W1K.out, SZ.out, ⟨ON2.out.ot, ON2.out.inm.mono (by omega), ON2.out.gl, ON2.out.bs, ON2.out.bt, ON2.out.bm, ON2.out.d1, ON2.out.d2, ON2.out.d3⟩, B2.out⟩
          go_wp2
          exact ⟨FIN.out, by simp [intOf]; omega⟩
        · obtain ⟨p, hp⟩ : ∃ p, x % ns = p := ⟨_, rfl⟩
          have hpn : p < ns := by rw [← hp]; exact Nat.mod_lt _ (by omega)
          have hnsb : ((ns : Int) == 0) = false := by simp [hns0]
          have hrem : (x : Int) % (ns : Int) = (p : Int) := by rw [← hp]; exact (Int.natCast_emod x ns).symm
          have hremt : Int.tmod (x : Int) (ns : Int) = (p : Int) := by rw [Int.tmod_eq_emod_of_nonneg (by omega)]; exact hrem
          have hpi : (p : Int) < (ns : Int) := by omega
          have hnsi : ¬ (ns : Int) = 0 := by omega
          obtain ⟨za', zc', e1, hzc⟩ := id HZL.out
          rw [PL.out] at e1
          cases e1
          obtain ⟨gz, oz, rfl, kz1, kz2⟩ := hzc p (by have := PL.out; omega)
          obtain ⟨pa1, pa2⟩ := pend_at (k + 1) ((A.take n).drop k) p (by have h1 := SL1.out; have h2 := HNS.out; omega)
          rw [pa1] at kz1
          rw [pa2] at kz2
          have HB3 := hide1 (sent_at (A := A) (n := n) (k := k) (p := p) W1K.out.nM (by have := HNS.out; omega))
          have hsz2 : (((A.take n).drop k).getD p ByteArray.empty).size ≤ 281474976710656 := szl_take (n := n) (k := k) HZ.out _ (by rw [List.getD, List.getElem?_eq_getElem (by have h1 := SL1.out; have h2 := HNS.out; omega)]; exact List.getElem_mem _)
          generalize ((A.take n).drop k).getD p ByteArray.empty = ss at kz2 HB3 hsz2
          obtain ⟨wt1, wt2, wt3⟩ := W1K.out.take (p := p) (by have := HNS.out; omega) HB3.out
          obtain ⟨kk, hkk⟩ : ∃ kk, k + 1 + p = kk := ⟨_, rfl⟩
          rw [hkk] at kz1 wt1 wt2 wt3
          have PCx := PC.out W2 B2.out
          have bb := hide1 (below1 (w := W2) (.cells #[.int .u32 (kk : Int), .string ss] 65))
          have ON3 := hide1 (ON2.out.below bb.out)
          have B3 : Hid (Below B w (W2.alloc (.cells #[.int .u32 (kk : Int), .string ss] 65))) := B2.out.trans (bb.out.mono BS2.out)
          have BS3 : Hid (B ≤ (W2.alloc (.cells #[.int .u32 (kk : Int), .string ss] 65)).heap.size) := by have := BS2.out; have := bb.out.size; unfold Hid; omega
          have hkb : kk < 4294967296 := by have h1 := HNS.out; have h2 := NB1.out; omega
          have kT := hide1 (take_any ON3.out.inm W1K.out.hd (by have h2 := NB1.out; omega) kk hkb ss hsz2 (by omega))
          have SZ4 := hide1 (sz_tk (a := a) (q := kk) SZ.out hsz2)
          generalize hO4 : tkO a l kk ss = O4 at kT wt3
          have O4L : Hid (O4.length ≤ 16) := by rw [← hO4]; exact tkO_len W1K.out.hd
          generalize tkA a l kk ss = a4 at kT wt2 wt3
          generalize tkR a l kk ss = l4 at kT wt2 SZ4
          generalize chkC a (lk l) kk = C4 at kT wt1
          have WT1 := hide1 wt1
          have WT2 := hide1 wt2
          have WT3 := hide1 wt3
          have hxi : (x : Int) < 256 := by have := HX.out; omega
          clear hO4 wt1 wt2 wt3 hp hkk pa1 pa2 hzc hsz2 hkb hns0 hpn
          go_wp2_with fail
          refine kT.out.mono ?_
          rintro e W4 ⟨v4, m4, rfl, hL4, hI4, hK4, hF4⟩
          have T4 := hide1 (ON3.out.came BS3.out hI4 hK4 hF4)
          have B4 : Hid (Below B w W4) := B3.out.trans T4.out.2
          have BS4 : Hid (B ≤ W4.heap.size) := by have := BS3.out; have := hK4.size; unfold Hid; omega
          have ON4 := hide1 T4.out.1
          have L4 := hide1 hL4.rd
          have LE4 : Hid ((A.take a).length + O4.length ≤ 1000000) := by have h1 := O4L.out; have h2 := NB1.out; unfold Hid; rw [List.length_take]; omega
          clear hL4 hI4 hK4 hF4 T4 kT ON3 B3 BS3 bb ON2 B2 BS2 HZL PCx kz1 kz2 hrem hremt hpi hnsi hnsb
          by_cases hil : i < ml
          · have hili : ¬ (ml : Int) ≤ (i : Int) := by omega
            obtain ⟨gl, ol, y, rfl, hlc⟩ := HL.out i hil
            have LC : Hid (∀ W, Below B w W → W.cell? ⟨gl, ol + i, none⟩ = some (.bool y)) := fun W hW => (hW.cell (p := ⟨gl, ol + i, none⟩) (by have := block_lt_of_cell hlc; have := HB0.out; simp only at *; omega)).trans hlc
            clear hlc
            cases y
            · rcases WT1.out with rfl | rfl
              all_goals
                go_wp2_with (at_builtin; go_must (refine wpList_append_lst rfl _ _ rfl rfl rfl ON4.out.gl L4.out LE4.out BS4.out ?_); intro gv5 W5 ho hg hf; rw [WT3.out] at ho; have T5 := hide1 (ON4.out.told BS4.out ho hg hf); have B5 : Hid (Below B w W5) := B4.out.trans T5.out.2; have ON5 := hide1 T5.out.1; have BS5 : Hid (B ≤ W5.heap.size) := (by have h1 := BS4.out; have h2 := hg.size; unfold Hid; omega); have lc := LC.out W5 B5.out; clear ho hg hf T5)
                have kW := hide1 (awaited_any ON5.out.inm (by have h1 := WT2.out.an; have h2 := NB1.out; omega))
                obtain ⟨ak1, ak2, ak3, ak4⟩ := WT2.out.ack
                have kC := hide1 (ack_any ON5.out.ot (by rw [SL1.out]; have h2 := NB1.out; omega) (a4 + 1))
                rw [ak1, ak2, ak3] at kC
                have AK4 := hide1 ak4
                obtain ⟨a5, ha5⟩ : ∃ a5, a4 + 1 = a5 := ⟨_, rfl⟩
                rw [ha5] at kW kC
                clear ak1 ak2 ak3 ak4 ha5
                refine kW.out.mono ?_
                rintro e w6 ⟨rfl, hw6⟩
                obtain rfl := hw6.symm
                go_wp2_with fail
                refine kC.out.mono ?_
                rintro e W6 ⟨v6, rfl, hO6, hK6, hF6⟩
                have T6 := hide1 (ON5.out.sent BS5.out hO6 hK6 hF6)
                have FIN : Hid (∃ (i' n' k a : Nat) (v mm gv' : Value) (l : List (Nat × ByteArray)), i' ≤ mp ∧ i' ≤ 150 ∧ gv5 = gv' ∧ Value.int .i64 (n : Int) = .int .i64 (n' : Int) ∧ Value.int .i64 ((i : Int) + 1) = .int .i64 (i' : Int) ∧ Wk A n' k a l ∧ Sz l ∧ On B B t v mm gv' k ((A.take n').drop k) a i' l (A.take a) W6 ∧ Below B w W6) := ⟨i + 1, n, a4, a4, v6, m4, gv5, l4, by omega, by omega, rfl, rfl, by go_num, AK4.out, SZ4.out, T6.out.1, B5.out.trans T6.out.2⟩
                clear hO6 hK6 hF6 T6 kW kC
                go_wp2
                exact ⟨FIN.out, by simp [intOf]; omega⟩
            · rcases WT1.out with rfl | rfl
              all_goals
                go_wp2_with (at_builtin; go_must (refine wpList_append_lst rfl _ _ rfl rfl rfl ON4.out.gl L4.out LE4.out BS4.out ?_); intro gv5 W5 ho hg hf; rw [WT3.out] at ho; have T5 := hide1 (ON4.out.told BS4.out ho hg hf); have B5 : Hid (Below B w W5) := B4.out.trans T5.out.2; have ON5 := hide1 T5.out.1; have BS5 : Hid (B ≤ W5.heap.size) := (by have h1 := BS4.out; have h2 := hg.size; unfold Hid; omega); have lc := LC.out W5 B5.out; clear ho hg hf T5)
                have FIN : Hid (∃ (i' n' k a : Nat) (v mm gv' : Value) (l : List (Nat × ByteArray)), i' ≤ mp ∧ i' ≤ 150 ∧ gv5 = gv' ∧ Value.int .i64 (n : Int) = .int .i64 (n' : Int) ∧ Value.int .i64 ((i : Int) + 1) = .int .i64 (i' : Int) ∧ Wk A n' k a l ∧ Sz l ∧ On B B t v mm gv' k ((A.take n').drop k) a i' l (A.take a) W5 ∧ Below B w W5) := ⟨i + 1, n, k, a4, v1, m4, gv5, l4, by omega, by omega, rfl, rfl, by go_num, WT2.out, SZ4.out, ON5.out, B5.out⟩
                exact ⟨FIN.out, by simp [intOf]; omega⟩
          · have hili : (ml : Int) ≤ (i : Int) := by omega
            rcases WT1.out with rfl | rfl
            all_goals
              go_wp2_with (at_builtin; go_must (refine wpList_append_lst rfl _ _ rfl rfl rfl ON4.out.gl L4.out LE4.out BS4.out ?_); intro gv5 W5 ho hg hf; rw [WT3.out] at ho; have T5 := hide1 (ON4.out.told BS4.out ho hg hf); have B5 : Hid (Below B w W5) := B4.out.trans T5.out.2; have ON5 := hide1 T5.out.1; have BS5 : Hid (B ≤ W5.heap.size) := (by have h1 := BS4.out; have h2 := hg.size; unfold Hid; omega); clear ho hg hf T5)
              have kW := hide1 (awaited_any ON5.out.inm (by have h1 := WT2.out.an; have h2 := NB1.out; omega))
              obtain ⟨ak1, ak2, ak3, ak4⟩ := WT2.out.ack
              have kC := hide1 (ack_any ON5.out.ot (by rw [SL1.out]; have h2 := NB1.out; omega) (a4 + 1))
              rw [ak1, ak2, ak3] at kC
              have AK4 := hide1 ak4
              obtain ⟨a5, ha5⟩ : ∃ a5, a4 + 1 = a5 := ⟨_, rfl⟩
              rw [ha5] at kW kC
              clear ak1 ak2 ak3 ak4 ha5
              refine kW.out.mono ?_
              rintro e w6 ⟨rfl, hw6⟩
              obtain rfl := hw6.symm
              go_wp2_with fail
              refine kC.out.mono ?_
              rintro e W6 ⟨v6, rfl, hO6, hK6, hF6⟩
              have T6 := hide1 (ON5.out.sent BS5.out hO6 hK6 hF6)
              have FIN : Hid (∃ (i' n' k a : Nat) (v mm gv' : Value) (l : List (Nat × ByteArray)), i' ≤ mp ∧ i' ≤ 150 ∧ gv5 = gv' ∧ Value.int .i64 (n : Int) = .int .i64 (n' : Int) ∧ Value.int .i64 ((i : Int) + 1) = .int .i64 (i' : Int) ∧ Wk A n' k a l ∧ Sz l ∧ On B B t v mm gv' k ((A.take n').drop k) a i' l (A.take a) W6 ∧ Below B w W6) := ⟨i + 1, n, a4, a4, v6, m4, gv5, l4, by omega, by omega, rfl, rfl, by go_num, AK4.out, SZ4.out, T6.out.1, B5.out.trans T6.out.2⟩
              clear hO6 hK6 hF6 T6 kW kC
              go_wp2
              exact ⟨FIN.out, by simp [intOf]; omega⟩
    · have TL : Hid ((A.take a).length = a) := by have h1 := HM.out; have h2 := NB.out; unfold Hid; rw [List.length_take]; omega
      obtain ⟨ac, hcut, hcr⟩ := cut_upto ab M cb a (by have h1 := HCB.out; have h2 := NB.out; omega)
      have RC := hide1 (hcr wr A (HR.out.below hB (by have := HB0.out; omega)) (by have h1 := HM.out; have h2 := NB.out; omega))
      obtain ⟨ga, gc, hgf⟩ := hOn.gl.form
      rw [TL.out] at hgf
      have kX := hide1 (texts_any hOn.gl.rd RC.out (by have h1 := TL.out; have h2 := NB.out; omega))
      subst hgf
      have han : (a : Int) ≤ (n0 : Int) := by have h2 := NB.out; omega
      have ha60 : a ≤ 60 := by have h2 := NB.out; omega
      clear hWk hSz hOn hB hcr hgv
      by_cases h150 : i < 150
      · have him0 : i = mp := by omega
        subst him0
        have h150i : (i : Int) < 150 := by omega
        go_wp2_with fail
        refine kX.out.mono ?_
        rintro e W7 ⟨rfl, hb7⟩
        have kW := hide1 (awaited_any (ON.out.inm.below hb7 (Nat.le_refl _)) (by have h2 := NB.out; omega))
        have B7 : Hid (Below B w W7) := B0.out.trans (hb7.mono BS.out)
        have BS7 : Hid (B ≤ W7.heap.size) := by have := BS.out; have := hb7.size; unfold Hid; omega
        have kA := hide1 (awake_any W7)
        clear hb7 kX
        go_wp2_with fail
        refine kW.out.mono ?_
        rintro e w8 ⟨rfl, hw8⟩
        obtain rfl := hw8.symm
        clear kW
        go_wp2_with fail
        refine kA.out.mono ?_
        rintro e w9 ⟨rfl, hb9⟩
        have HB9 := hide1 hb9
        clear hb9
        go_wp2
        go_ret
        exact ⟨rfl, HB0.out ▸ B7.out.trans (HB9.out.mono BS7.out)⟩
      · have h150i : ¬ (i : Int) < 150 := by omega
        by_cases him2 : i < mp
        · have himi : (i : Int) < (mp : Int) := by omega
          go_wp2_with fail
          refine kX.out.mono ?_
          rintro e W7 ⟨rfl, hb7⟩
          have kW := hide1 (awaited_any (ON.out.inm.below hb7 (Nat.le_refl _)) (by have h2 := NB.out; omega))
          have B7 : Hid (Below B w W7) := B0.out.trans (hb7.mono BS.out)
          have BS7 : Hid (B ≤ W7.heap.size) := by have := BS.out; have := hb7.size; unfold Hid; omega
          have kA := hide1 (awake_any W7)
          clear hb7 kX
          go_wp2_with fail
          refine kW.out.mono ?_
          rintro e w8 ⟨rfl, hw8⟩
          obtain rfl := hw8.symm
          clear kW
          go_wp2_with fail
          refine kA.out.mono ?_
          rintro e w9 ⟨rfl, hb9⟩
          have HB9 := hide1 hb9
          clear hb9
          go_wp2
          go_ret
          exact ⟨rfl, HB0.out ▸ B7.out.trans (HB9.out.mono BS7.out)⟩
        · have himi : ¬ (i : Int) < (mp : Int) := by omega
          go_wp2_with fail
          refine kX.out.mono ?_
          rintro e W7 ⟨rfl, hb7⟩
          have kW := hide1 (awaited_any (ON.out.inm.below hb7 (Nat.le_refl _)) (by have h2 := NB.out; omega))
          have B7 : Hid (Below B w W7) := B0.out.trans (hb7.mono BS.out)
          have BS7 : Hid (B ≤ W7.heap.size) := by have := BS.out; have := hb7.size; unfold Hid; omega
          have kA := hide1 (awake_any W7)
          clear hb7 kX
          go_wp2_with fail
          refine kW.out.mono ?_
          rintro e w8 ⟨rfl, hw8⟩
          obtain rfl := hw8.symm
          clear kW
          go_wp2_with fail
          refine kA.out.mono ?_
          rintro e w9 ⟨rfl, hb9⟩
          have HB9 := hide1 hb9
          clear hb9
          go_wp2
          go_ret
          exact ⟨rfl, HB0.out ▸ B7.out.trans (HB9.out.mono BS7.out)⟩

theorem once_all (w : World) (ab ap al : Option Addr) (M cb mp cp ml cl : Nat) (h : ∃ A : List ByteArray, Rdl w (.slice ab M cb) A ∧ A.length = M ∧ M ≤ cb ∧ Szl A) (hp : Bys w mp ap) (hl : Tru w ml al) :
    Calls Try.prog 5 #[.slice ab M cb, .slice ap mp cp, .slice al ml cl] w fun e w' => e = .returned (.bool true) ∧ Below w.heap.size w w' := by
  obtain ⟨A, h1, h2, h3, h4⟩ := h
  exact once_main w ab ap al M cb mp cp ml cl A h1 h2 h3 h4 hp hl

end Go.Proofs.Ytjingknkjokldaa
