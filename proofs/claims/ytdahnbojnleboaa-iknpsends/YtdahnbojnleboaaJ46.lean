/- The document's Send. -/
import Derived.Test.YtdahnbojnleboaaJ45
namespace Go.Proofs.Ytdahnbojnleboaa.I
open Go.RowKit Pg
set_option maxRecDepth 100000
attribute [local go_sem] not_any T.mf_any

theorem rsend_few (d0 d1 : Nat) (K : Value) (F m c : Nat) (a : Option Addr) (w : World) (hm : m ≠ 128) :
    Calls Try.prog 16 #[rw2 d0 d1, K, .int .u64 (F : Int), .slice a m c] w fun e w' => e = .returned (.tuple #[.slice none 0 0, .int .i64 11]) ∧ Below w.heap.size w w' := by
  have t1 : ((m : Int) != 128) = true := by rw [bne_iff_ne]; omega
  have t2 : ¬ (m : Int) = 128 := by omega
  have B := hide1 (On.start w (row2 d0 d1)).bel
  unfold row2 at B
  unfold rw2
  go_enter Try.func16, Try.ntmps16
  go_wp2
  go_ret2
  exact ⟨rfl, B.out⟩

theorem rsend_no (d0 d1 : Nat) (K v : Value) (F c : Nat) (ab : Nat → Option Addr) (nn cc : Nat → Nat) (L : Nat → List Bool) (w : World) (hv : T.Brd w v 128 ab nn cc L) (hF : F < 18446744073709551616) (hn : nn 0 ≤ 4194304) (hc : nC F (nn 0) = c) (hc0 : c ≠ 0) :
    Calls Try.prog 16 #[rw2 d0 d1, K, .int .u64 (F : Int), v] w fun e w' => e = .returned (.tuple #[.slice none 0 0, .int .i64 (c : Int)]) ∧ Below w.heap.size w w' := by
  obtain ⟨gv, cv, rfl, hgv, hcs⟩ := hv.at'
  have c0 := hcs 0 (by omega)
  obtain ⟨N, hN⟩ : ∃ N, N = nn 0 := ⟨_, rfl⟩
  obtain ⟨a0, ha0⟩ : ∃ a, a = ab 0 := ⟨_, rfl⟩
  obtain ⟨cc0, hcc0⟩ : ∃ a, a = cc 0 := ⟨_, rfl⟩
  rw [← hN, ← ha0, ← hcc0] at c0
  rw [← hN] at hn hc
  have kn := fun w => hide1 (rspan_any F N w hF hn)
  rw [hc] at kn
  have tc : ((c : Int) != 0) = true := by rw [bne_iff_ne]; omega
  obtain ⟨W0, hW0⟩ : ∃ W0, W0 = w.alloc (row2 d0 d1) := ⟨_, rfl⟩
  have A0 := hide1 (On.start w (row2 d0 d1))
  rw [← hW0] at A0
  have c0' := (A0.out.bel.cell (p := ⟨gv, 0, none⟩) hgv).trans c0
  unfold row2 at hW0
  unfold rw2
  clear hc hcs c0 hN ha0 hcc0 hv
  go_enter Try.func16, Try.ntmps16
  go_upto_region 1 with (fail)
  rw [← hW0]
  clear hW0
  go_wp2_with fail
  go_at_call 29
  refine (kn _).out.mono ?_
  rintro e w1 ⟨rfl, rfl⟩
  go_wp2
  go_ret2
  exact ⟨rfl, A0.out.bel⟩

theorem keyC_snoc (fk : Nat → List Nat) (d0 d1 F N : Nat) (L : Nat → List Bool) (i : Nat) {k : Nat} (hL : (L i).length = N) (hk : k < N) :
    T.bools ((keyC fk d0 d1 F N L i).take k) ++ [.bool ((cl (fk i) F N).getD k false ^^ (bt d0 d1 (i : Int) && (L i).getD k false))] = T.bools ((keyC fk d0 d1 F N L i).take (k + 1)) := by
  rw [← keyC_get fk d0 d1 F i hL hk]
  refine take_snoc _ ?_
  unfold keyC
  split
  · rw [show xk (cl (fk i) F N) (fun _ => L i) 1 = List.zipWith (fun x y => x ^^ y) (cl (fk i) F N) (L i) from rfl, zip_len (cl_length _ _ _) hL]; exact hk
  · rw [cl_length]; exact hk
theorem keyC_len (fk : Nat → List Nat) (d0 d1 F N : Nat) (L : Nat → List Bool) (i : Nat) (hL : (L i).length = N) : (keyC fk d0 d1 F N L i).length = N := by
  unfold keyC
  split
  · exact zip_len (cl_length _ _ _) hL
  · exact cl_length _ _ _

def RSP (w : World) (N : Nat) (ok : Bool) (R : Nat → Nat → Nat) (e : Ending) (w' : World) : Prop :=
  ∃ (la : Option Addr) (n' lc code : Nat), e = .returned (.tuple #[.slice la n' lc, .int .i64 (code : Int)]) ∧ T.Rws w' n' la R ∧ (code = 0 ∧ n' = N ∧ ok = true ∨ code = 11 ∧ n' = 0 ∧ ok = false) ∧ Below w.heap.size w w'

set_option maxHeartbeats 16000000 in
theorem rsend_in (d0 d1 : Nat) (K v : Value) (fk : Nat → List Nat) (F N : Nat) (ab : Nat → Option Addr) (nn cc : Nat → Nat) (L : Nat → List Bool) (w : World) (hv : T.Brd w v 128 ab nn cc L) (hK : Sds w K fk 128) (hfk : ∀ i, (fk i).length = 32 ∧ Lt 256 (fk i)) (hN0 : nn 0 = N) (hc : nC F N = 0) (hF : F ≤ 67108864) (hN : N ≤ 4096) (hN1 : 1 ≤ N) :
    Calls Try.prog 16 #[rw2 d0 d1, K, .int .u64 (F : Int), v] w (RSP w N (alf 128 nn N) (T.rowV (keyC fk d0 d1 F N L))) := by
  obtain ⟨i4, hi4, hy0, hy1, hy2⟩ := info_of info4
  obtain ⟨i5, hi5, hx0, hx1, hx2⟩ := info_parts infoB
  obtain ⟨gk, ck, rfl, hgk, hrk⟩ := hK.at'
  obtain ⟨gv, cv, rfl, hgv, hcs⟩ := hv.at'
  have HRK := hide1 hrk
  have HCS := hide1 hcs
  have HBV := hide1 hv.bl
  have HFK := hide1 hfk
  have kn := fun w => hide1 (rspan_any F N w (by omega) (by omega))
  rw [hc] at kn
  have kz := fun w i => hide1 (bits_ref (fk i) F N w (hfk i).1 (hfk i).2 (by omega) (by omega))
  have e1 : IntKind.i64.wrap (F : Int) = (F : Int) := by rw [IntKind.wrap_i64]; omega
  have t1 : ((128 : Int) != 128) = false := by decide
  have c0 := hcs 0 (by omega)
  rw [hN0] at c0
  obtain ⟨a0, ha0⟩ : ∃ a, a = ab 0 := ⟨_, rfl⟩
  obtain ⟨cc0, hcc0⟩ : ∃ a, a = cc 0 := ⟨_, rfl⟩
  rw [← ha0, ← hcc0] at c0
  obtain ⟨W0, hW0⟩ : ∃ W0, W0 = w.alloc (row2 d0 d1) := ⟨_, rfl⟩
  have A0 := hide1 (On.start w (row2 d0 d1))
  rw [← hW0] at A0
  have c0' := (A0.out.bel.cell (p := ⟨gv, 0, none⟩) hgv).trans c0
  unfold row2 at hW0
  unfold rw2
  clear hc hrk hcs hv hfk hK c0 ha0 hcc0 hN0
  go_enter Try.func16, Try.ntmps16
  go_upto_region 1 with (fail)
  rw [← hW0]
  clear hW0
  go_wp2_with fail
  go_at_call 29
  refine (kn _).out.mono ?_
  rintro e w1 ⟨rfl, rfl⟩
  go_wp2
  clear c0'
  go_loopw [12, 13] (fun ov iv wr => ∃ (i : Nat) (aB : Nat → Option Addr) (nB cB : Nat → Nat), i ≤ 128 ∧ iv = .int .i64 i ∧ T.Bmk wr w1.heap.size ov i aB nB cB (keyC fk d0 d1 F N L) ∧ (∀ k, k < i → nB k = N ∧ nn k = N) ∧ On w wr (row2 d0 d1) ∧ Below w1.heap.size w1 wr) (fun _ iv _ => 128 - (intOf iv).toNat)
  case atStart => exact ⟨0, _, _, _, Nat.zero_le _, rfl, T.Bmk.nil _ _ _, fun k hk => by omega, A0.out, Below.refl _ _⟩
  case round =>
    obtain ⟨i, aB, nB, cB, hi, rfl, hT, hn, hA, hbe⟩ := hrel
    obtain ⟨la, lc, rfl⟩ := T.row_form hT.ns.own
    have HT := hide1 hT
    have HNN := hide1 hn
    have HA := hide1 hA
    have HBE := hide1 hbe
    have HSZ1 : Shy (w.heap.size < w1.heap.size) := ⟨A0.out.lt⟩
    clear hT hn hA
    by_cases hlt : i < 128
    · have hlt' : (i : Int) < 128 := by omega
      have cl0 := (HA.out.bel.cell (p := ⟨gv, i, none⟩) hgv).trans (HCS.out i hlt)
      obtain ⟨ai, hai⟩ : ∃ x, x = ab i := ⟨_, rfl⟩
      obtain ⟨ci, hci⟩ : ∃ x, x = cc i := ⟨_, rfl⟩
      obtain ⟨ni, hni⟩ : ∃ x, x = nn i := ⟨_, rfl⟩
      rw [← hai, ← hci, ← hni] at cl0
      have HNI := hide1 hni
      have HAI := hide1 hai
      have HCI := hide1 hci
      clear hai hci hni hbe
      by_cases hne : ni = N
      · subst hne
        have t2 : ((ni : Int) != (ni : Int)) = false := by simp
        have hi1 := hi23' (HFK.out i).1
        have ra : Hid (wr.rangeAt gk (i * 32) (u8s (fk i))) := fun j u hu => (HA.out.bel.cell (p := ⟨gk, i * 32 + j, none⟩) (by simpa using hgk)).trans (HRK.out i hlt j u hu)
        have VL' := (HBV.out i hlt).below HA.out.bel (Nat.le_refl _)
        rw [← HNI.out, ← HAI.out] at VL'
        have VL := hide1 VL'
        have HLL : Shy ((L i).length = ni) := ⟨VL'.len⟩
        clear VL'
        go_wp2_with (first | (refine wpList_load_mid rfl 23 (.tmp 48) rfl gk (i * 32) rfl (u8s (fk i)) _ ra.out Try.underlying23 rfl hi1 ?_) | fail)
        go_at_call 30
        refine (kz _ i).out.mono ?_
        rintro e wo ⟨ta, tc, rfl, htl, hb2, htf⟩
        have HT3 := hide1 (HT.out.below hb2)
        have A3 := hide1 (HA.out.to hb2)
        have B3 := hide1 (HBE.out.trans (hb2.mono HBE.out.size))
        have HTL3 := hide1 htl
        have VL3 := hide1 (VL.out.below hb2 (Nat.le_refl _))
        have cl3 := (hb2.cell (p := ⟨gv, i, none⟩) (by have := HA.out.bel.size; simp; omega)).trans cl0
        have CL3 := hide1 cl3
        clear ra htl hb2 htf cl0 cl3 HT HBE HA VL
        go_wp2
        go_loopw [16, 17] (fun ov iv wr => ∃ k : Nat, k ≤ ni ∧ iv = .int .i64 k ∧ wr.ownsRow wo.heap.size 4 1 ov k (T.bools ((keyC fk d0 d1 F ni L i).take k)) ∧ Below wo.heap.size wo wr) (fun _ iv _ => ni - (intOf iv).toNat)
        case atStart => exact ⟨0, Nat.zero_le _, rfl, World.ownsRow_nil _ _ _ _, Below.refl _ _⟩
        case round =>
          obtain ⟨k, hk, rfl, hol, hbq⟩ := hrel
          obtain ⟨ia, ic, rfl⟩ := T.row_form hol
          have HOL := hide1 hol
          have HBQ := hide1 hbq
          clear hol
          by_cases hlk : k < ni
          · have hlk' : (k : Int) < (ni : Int) := by omega
            obtain ⟨N, hNN⟩ : ∃ N, N = ni := ⟨_, rfl⟩
            have gtf : ∀ {a : Option Addr} {l : List Bool}, T.Bl wo ni a l → ∃ g o, a = some ⟨g, o, none⟩ ∧ ∀ W, Below wr.heap.size wr W → W.cell? ⟨g, o + k, none⟩ = some (.bool (l.getD k false)) := fun {a l} h => by
              have hl : k < l.length := by rw [h.len]; exact hlk
              obtain ⟨g, o, ea, hc⟩ := (h.below hbq (Nat.le_refl _)).at' k (l[k]'hl) (List.getElem?_eq_getElem hl)
              refine ⟨g, o, ea, fun W hW => (hW.cell (p := ⟨g, o + k, none⟩) (T.lt_cell hc)).trans ?_⟩
              rw [hc, List.getD_eq_getElem?_getD, List.getElem?_eq_getElem hl]; rfl
            obtain ⟨gt, ot, rfl, cx⟩ := gtf HTL3.out
            obtain ⟨gl, ol, eai, cy⟩ := gtf VL3.out
            have HEZ' := keyC_snoc fk d0 d1 F ni L i HLL.out hlk
            obtain ⟨x, hx⟩ : ∃ x, x = (cl (fk i) F ni).getD k false := ⟨_, rfl⟩
            obtain ⟨y, hy⟩ : ∃ x, x = (L i).getD k false := ⟨_, rfl⟩
            rw [← hx] at cx HEZ'
            rw [← hy] at cy HEZ'
            have CT := hide1 cx
            have CY := hide1 cy
            have CD : Hid (∀ W, Below wr.heap.size wr W → W.cell? ⟨w.heap.size, 0, none⟩ = some (.int .u64 (d0 : Int)) ∧ W.cell? ⟨w.heap.size, 1, none⟩ = some (.int .u64 (d1 : Int))) := fun W hW => by
              have h := T.box2 ((hW.block _ (T.lt_heap ((A3.out.to hbq).h1))).trans (A3.out.to hbq).h1)
              exact ⟨h.1, h.2.1⟩
            have CL : Hid (∀ W, Below wr.heap.size wr W → W.cell? ⟨gv, i, none⟩ = some (.slice (some ⟨gl, ol, none⟩) ni ci)) := fun W hW => by
              have h1 := (hbq.cell (p := ⟨gv, i, none⟩) (T.lt_cell CL3.out)).trans CL3.out
              rw [← eai]
              exact (hW.cell (p := ⟨gv, i, none⟩) (T.lt_cell h1)).trans h1
            have kB := fun W => hide1 (rbit_any d0 d1 (i : Int) W)
            have hszq := hbq.size
            clear cx cy hx hy hbq eai
            subst hNN
            cases hbd : bt d0 d1 (i : Int) with
            | true =>
              rw [hbd] at kB HEZ'
              obtain ⟨z, hz⟩ : ∃ z, z = (x ^^ (true && y)) := ⟨_, rfl⟩
              rw [← hz] at HEZ'
              have HZ := hide1 hz
              have HEZ := hide1 HEZ'
              clear hz HEZ' hbd
              go_upto_region 20 with (fail)
              refine region_f (F := [19]) (S := fun W' => Below wr.heap.size wr W') (by kernel_rfl) (Below.refl _ _).drew (fun hS => ?_)
              refine take_p 0 61 (.slice ia k ic) rfl rfl (by kernel_rfl) (by kernel_rfl) (by kernel_rfl) (fun _ _ _ h => h) rfl (fun w => by go_simp) ?_
              try simp only [List.setIfInBounds_toArray, List.set_cons_zero, List.set_cons_succ]
              refine take_p 1 62 (.slice (some ⟨gt, ot, none⟩) N tc) rfl rfl (by kernel_rfl) (by kernel_rfl) (by kernel_rfl) (fun _ _ _ h => h) rfl (fun w => by go_simp) ?_
              try simp only [List.setIfInBounds_toArray, List.set_cons_zero, List.set_cons_succ]
              refine take_p 2 63 (.int .i64 (k : Int)) rfl rfl (by kernel_rfl) (by kernel_rfl) (by kernel_rfl) (fun _ _ _ h => h) rfl (fun w => by go_simp) ?_
              try simp only [List.setIfInBounds_toArray, List.set_cons_zero, List.set_cons_succ]
              refine take_p 3 64 (.pointer (some ⟨gt, ot + k, none⟩)) rfl rfl (by kernel_rfl) (by kernel_rfl) (by kernel_rfl) (fun _ _ _ h => h) rfl (fun w => by go_simp) ?_
              try simp only [List.setIfInBounds_toArray, List.set_cons_zero, List.set_cons_succ]
              refine take_f 4 65 (.bool x) [17, 18, 19, 20] rfl rfl (by kernel_rfl) (by kernel_rfl) (by kernel_rfl) (by kernel_rfl) (by kernel_rfl) (by kernel_rfl) (fun _ _ _ h => h) rfl (fun w hSw => by have h1 := CT.out w hSw; go_simp) hS ?_
              try simp only [List.setIfInBounds_toArray, List.set_cons_zero, List.set_cons_succ]
              refine take_f 5 66 (.agg #[.int .u64 (d0 : Int), .int .u64 (d1 : Int)]) [7, 8, 9, 10, 11, 12, 13, 14, 15, 16, 17, 18, 19, 20] rfl rfl (by kernel_rfl) (by kernel_rfl) (by kernel_rfl) (by kernel_rfl) (by kernel_rfl) (by kernel_rfl) (fun _ _ _ h => h) rfl (fun w hSw => by have h1 := (CD.out w hSw).1; have h2 := (CD.out w hSw).2; go_simp) hS ?_
              try simp only [List.setIfInBounds_toArray, List.set_cons_zero, List.set_cons_succ]
              refine take_p 6 67 (.int .i64 (i : Int)) rfl rfl (by kernel_rfl) (by kernel_rfl) (by kernel_rfl) (fun _ _ _ h => h) rfl (fun w => by go_simp) ?_
              try simp only [List.setIfInBounds_toArray, List.set_cons_zero, List.set_cons_succ]
              refine ready_f 7 (o := { dst := some 68, op := Op.call { callee := Callee.value (Operand.func 35), args := #[Operand.tmp 66, Operand.tmp 67], argTypes := #[28, 3] }, type := 4, pos := "ref.go:95", after := #[{ on := 5, ground := Ground.data }, { on := 6, ground := Ground.data }], guard := none }) (by kernel_rfl) rfl (fun K hK => ?_)
              go_simp
              refine (kB _).out.mono ?_
              rintro e w1 ⟨rfl, hb1⟩
              have hS1 : Below wr.heap.size wr w1 := hS.trans (hb1.mono hS.size)
              refine hK.out _ _ (fun _ _ => hS1) ?_
              clear hb1
              clear hK K
              try simp only [Act.put, List.setIfInBounds_toArray, List.set_cons_zero, List.set_cons_succ]
              refine take_p 8 69 (.bool true) rfl rfl (by kernel_rfl) (by kernel_rfl) (by kernel_rfl) (fun _ _ _ h => h) rfl (fun w => by go_simp) ?_
              try simp only [List.setIfInBounds_toArray, List.set_cons_zero, List.set_cons_succ]
              refine take_p 9 70 (.slice (some ⟨gv, 0, none⟩) 128 cv) rfl rfl (by kernel_rfl) (by kernel_rfl) (by kernel_rfl) (fun _ _ _ h => h) rfl (fun w => by go_simp) ?_
              try simp only [List.setIfInBounds_toArray, List.set_cons_zero, List.set_cons_succ]
              refine take_p 10 71 (.int .i64 (i : Int)) rfl rfl (by kernel_rfl) (by kernel_rfl) (by kernel_rfl) (fun _ _ _ h => h) rfl (fun w => by go_simp) ?_
              try simp only [List.setIfInBounds_toArray, List.set_cons_zero, List.set_cons_succ]
              refine take_p 11 72 (.pointer (some ⟨gv, i, none⟩)) rfl rfl (by kernel_rfl) (by kernel_rfl) (by kernel_rfl) (fun _ _ _ h => h) rfl (fun w => by go_simp) ?_
              try simp only [List.setIfInBounds_toArray, List.set_cons_zero, List.set_cons_succ]
              refine take_f 12 73 (.slice (some ⟨gl, ol, none⟩) N ci) [14, 15, 16, 17, 18, 19, 20] rfl rfl (by kernel_rfl) (by kernel_rfl) (by kernel_rfl) (by kernel_rfl) (by kernel_rfl) (by kernel_rfl) (fun _ _ _ h => h) rfl (fun w hSw => by have h1 := CL.out w hSw; go_simp) hS1 ?_
              try simp only [List.setIfInBounds_toArray, List.set_cons_zero, List.set_cons_succ]
              refine take_p 13 74 (.int .i64 (k : Int)) rfl rfl (by kernel_rfl) (by kernel_rfl) (by kernel_rfl) (fun _ _ _ h => h) rfl (fun w => by go_simp) ?_
              try simp only [List.setIfInBounds_toArray, List.set_cons_zero, List.set_cons_succ]
              refine take_p 14 75 (.pointer (some ⟨gl, ol + k, none⟩)) rfl rfl (by kernel_rfl) (by kernel_rfl) (by kernel_rfl) (fun _ _ _ h => h) rfl (fun w => by go_simp) ?_
              try simp only [List.setIfInBounds_toArray, List.set_cons_zero, List.set_cons_succ]
              refine take_f 15 76 (.bool y) [16, 17, 18, 19, 20] rfl rfl (by kernel_rfl) (by kernel_rfl) (by kernel_rfl) (by kernel_rfl) (by kernel_rfl) (by kernel_rfl) (fun _ _ _ h => h) rfl (fun w hSw => by have h1 := CY.out w hSw; go_simp) hS1 ?_
              try simp only [List.setIfInBounds_toArray, List.set_cons_zero, List.set_cons_succ]
              refine take_p 16 77 (.bool y) rfl rfl (by kernel_rfl) (by kernel_rfl) (by kernel_rfl) (fun _ _ _ h => h) rfl (fun w => by go_simp) ?_
              try simp only [List.setIfInBounds_toArray, List.set_cons_zero, List.set_cons_succ]
              refine take_p 17 78 (.bool z) rfl rfl (by kernel_rfl) (by kernel_rfl) (by kernel_rfl) (fun _ _ _ h => h) rfl (fun w => by rw [HZ.out]; go_simp; cases x <;> cases y <;> rfl) ?_
              try simp only [List.setIfInBounds_toArray, List.set_cons_zero, List.set_cons_succ]
              refine ready_f 18 (o := { dst := some 79, op := Op.buildSlice 25 1 #[(0, Operand.tmp 78)], type := 25, pos := "ref.go:95", after := #[{ on := 17, ground := Ground.data }], guard := none }) (by kernel_rfl) rfl (fun K hK => ?_)
              rw [if_pos (by rfl)]
              go_simp
              have hS2 : Below wr.heap.size wr (w1.alloc (.cells #[.bool z] 4)) := hS1.alloc hS1.size _
              refine hK.out _ _ (fun _ _ => hS2) ?_
              clear hK K
              try simp only [Act.put, List.setIfInBounds_toArray, List.set_cons_zero, List.set_cons_succ]
              have O2 := hide1 ((own_below HOL.out hS1).alloc (.cells #[.bool z] 4))
              have hz1 := hS1.size
              refine ready_f 19 (o := { dst := some 80, op := Op.call { callee := Callee.builtin Builtin.append, args := #[Operand.tmp 61, Operand.tmp 79], argTypes := #[25, 25] }, type := 25, pos := "ref.go:95", after := #[{ on := 0, ground := Ground.data }, { on := 18, ground := Ground.data }, { on := 8, ground := Ground.chain }], guard := none }) (by kernel_rfl) rfl (fun K hK => ?_)
              rw [if_pos (by rfl)]
              refine wp_append_lies _ _ _ 25 rfl wo.heap.size 4 i4 (.bool false) 1 1 Try.underlying25 hi4 hy0 hy1 hy2 rfl (by decide) _ _ _ rfl O2.out ⟨w1.heap.size, 0, none⟩ 1 1 [.bool z] rfl rfl (cell_one_new _ _ _) (by simp [Value.oneCell']) (by decide) (by unfold maxLen; omega) (by omega) (by simp; omega) (w1.heap.size + 1) (by simp) ?_
              intro g9 cap9 w9 hown9 hgrow9 hlies9 _
              refine hK.out _ _ (fun h => absurd (by decide) h) ?_
              clear hK K
              try simp only [Act.put, List.setIfInBounds_toArray, List.set_cons_zero, List.set_cons_succ]
              refine take_p 20 16 (.slice (some ⟨g9, 0, none⟩) (k + 1) cap9) rfl rfl (by kernel_rfl) (by kernel_rfl) (by kernel_rfl) (fun _ _ _ h => h) rfl (fun w => by go_simp) ?_
              try simp only [List.setIfInBounds_toArray, List.set_cons_zero, List.set_cons_succ]
              refine done_f (by kernel_rfl) ?_ _
              have B9 := hide1 ((HBQ.out.trans (hS2.mono HBQ.out.size)).grown hgrow9 (by have := HBQ.out.size; rw [size_alloc]; omega) (fun b hb => (O2.out.lt b hb).1))
              have e9 := HEZ.out
              rw [e9] at hown9
              have HO9 := hide1 hown9
              clear hS hS1 hS2 hown9 hgrow9 hlies9 O2 kB CT CD CL CY HZ
              go_wp2
              go_roundw
              case rel => exact ⟨k + 1, by omega, by go_num, HO9.out, B9.out⟩
              case measure => simp [intOf]; omega
            | false =>
              rw [hbd] at kB HEZ'
              obtain ⟨z, hz⟩ : ∃ z, z = (x ^^ (false && y)) := ⟨_, rfl⟩
              rw [← hz] at HEZ'
              have HZ := hide1 hz
              have HEZ := hide1 HEZ'
              clear hz HEZ' hbd
              go_upto_region 20 with (fail)
              refine region_f (F := [19]) (S := fun W' => Below wr.heap.size wr W') (by kernel_rfl) (Below.refl _ _).drew (fun hS => ?_)
              refine take_p 0 61 (.slice ia k ic) rfl rfl (by kernel_rfl) (by kernel_rfl) (by kernel_rfl) (fun _ _ _ h => h) rfl (fun w => by go_simp) ?_
              try simp only [List.setIfInBounds_toArray, List.set_cons_zero, List.set_cons_succ]
              refine take_p 1 62 (.slice (some ⟨gt, ot, none⟩) N tc) rfl rfl (by kernel_rfl) (by kernel_rfl) (by kernel_rfl) (fun _ _ _ h => h) rfl (fun w => by go_simp) ?_
              try simp only [List.setIfInBounds_toArray, List.set_cons_zero, List.set_cons_succ]
              refine take_p 2 63 (.int .i64 (k : Int)) rfl rfl (by kernel_rfl) (by kernel_rfl) (by kernel_rfl) (fun _ _ _ h => h) rfl (fun w => by go_simp) ?_
              try simp only [List.setIfInBounds_toArray, List.set_cons_zero, List.set_cons_succ]
              refine take_p 3 64 (.pointer (some ⟨gt, ot + k, none⟩)) rfl rfl (by kernel_rfl) (by kernel_rfl) (by kernel_rfl) (fun _ _ _ h => h) rfl (fun w => by go_simp) ?_
              try simp only [List.setIfInBounds_toArray, List.set_cons_zero, List.set_cons_succ]
              refine take_f 4 65 (.bool x) [17, 18, 19, 20] rfl rfl (by kernel_rfl) (by kernel_rfl) (by kernel_rfl) (by kernel_rfl) (by kernel_rfl) (by kernel_rfl) (fun _ _ _ h => h) rfl (fun w hSw => by have h1 := CT.out w hSw; go_simp) hS ?_
              try simp only [List.setIfInBounds_toArray, List.set_cons_zero, List.set_cons_succ]
              refine take_f 5 66 (.agg #[.int .u64 (d0 : Int), .int .u64 (d1 : Int)]) [7, 8, 9, 10, 11, 12, 13, 14, 15, 16, 17, 18, 19, 20] rfl rfl (by kernel_rfl) (by kernel_rfl) (by kernel_rfl) (by kernel_rfl) (by kernel_rfl) (by kernel_rfl) (fun _ _ _ h => h) rfl (fun w hSw => by have h1 := (CD.out w hSw).1; have h2 := (CD.out w hSw).2; go_simp) hS ?_
              try simp only [List.setIfInBounds_toArray, List.set_cons_zero, List.set_cons_succ]
              refine take_p 6 67 (.int .i64 (i : Int)) rfl rfl (by kernel_rfl) (by kernel_rfl) (by kernel_rfl) (fun _ _ _ h => h) rfl (fun w => by go_simp) ?_
              try simp only [List.setIfInBounds_toArray, List.set_cons_zero, List.set_cons_succ]
              refine ready_f 7 (o := { dst := some 68, op := Op.call { callee := Callee.value (Operand.func 35), args := #[Operand.tmp 66, Operand.tmp 67], argTypes := #[28, 3] }, type := 4, pos := "ref.go:95", after := #[{ on := 5, ground := Ground.data }, { on := 6, ground := Ground.data }], guard := none }) (by kernel_rfl) rfl (fun K hK => ?_)
              go_simp
              refine (kB _).out.mono ?_
              rintro e w1 ⟨rfl, hb1⟩
              have hS1 : Below wr.heap.size wr w1 := hS.trans (hb1.mono hS.size)
              refine hK.out _ _ (fun _ _ => hS1) ?_
              clear hb1
              clear hK K
              try simp only [Act.put, List.setIfInBounds_toArray, List.set_cons_zero, List.set_cons_succ]
              refine take_p 8 69 (.bool false) rfl rfl (by kernel_rfl) (by kernel_rfl) (by kernel_rfl) (fun _ _ _ h => h) rfl (fun w => by go_simp) ?_
              try simp only [List.setIfInBounds_toArray, List.set_cons_zero, List.set_cons_succ]
              refine skip_p 9 70 rfl rfl (by kernel_rfl) (by kernel_rfl) (by kernel_rfl) (fun _ _ _ h => h) rfl ?_
              try simp only [List.setIfInBounds_toArray, List.set_cons_zero, List.set_cons_succ]
              refine skip_p 10 71 rfl rfl (by kernel_rfl) (by kernel_rfl) (by kernel_rfl) (fun _ _ _ h => h) rfl ?_
              try simp only [List.setIfInBounds_toArray, List.set_cons_zero, List.set_cons_succ]
              refine skip_p 11 72 rfl rfl (by kernel_rfl) (by kernel_rfl) (by kernel_rfl) (fun _ _ _ h => h) rfl ?_
              try simp only [List.setIfInBounds_toArray, List.set_cons_zero, List.set_cons_succ]
              refine skip_p 12 73 rfl rfl (by kernel_rfl) (by kernel_rfl) (by kernel_rfl) (fun _ _ _ h => h) rfl ?_
              try simp only [List.setIfInBounds_toArray, List.set_cons_zero, List.set_cons_succ]
              refine skip_p 13 74 rfl rfl (by kernel_rfl) (by kernel_rfl) (by kernel_rfl) (fun _ _ _ h => h) rfl ?_
              try simp only [List.setIfInBounds_toArray, List.set_cons_zero, List.set_cons_succ]
              refine skip_p 14 75 rfl rfl (by kernel_rfl) (by kernel_rfl) (by kernel_rfl) (fun _ _ _ h => h) rfl ?_
              try simp only [List.setIfInBounds_toArray, List.set_cons_zero, List.set_cons_succ]
              refine skip_p 15 76 rfl rfl (by kernel_rfl) (by kernel_rfl) (by kernel_rfl) (fun _ _ _ h => h) rfl ?_
              try simp only [List.setIfInBounds_toArray, List.set_cons_zero, List.set_cons_succ]
              refine take_p 16 77 (.bool false) rfl rfl (by kernel_rfl) (by kernel_rfl) (by kernel_rfl) (fun _ _ _ h => h) rfl (fun w => by go_simp) ?_
              try simp only [List.setIfInBounds_toArray, List.set_cons_zero, List.set_cons_succ]
              refine take_p 17 78 (.bool z) rfl rfl (by kernel_rfl) (by kernel_rfl) (by kernel_rfl) (fun _ _ _ h => h) rfl (fun w => by rw [HZ.out]; go_simp) ?_
              try simp only [List.setIfInBounds_toArray, List.set_cons_zero, List.set_cons_succ]
              refine ready_f 18 (o := { dst := some 79, op := Op.buildSlice 25 1 #[(0, Operand.tmp 78)], type := 25, pos := "ref.go:95", after := #[{ on := 17, ground := Ground.data }], guard := none }) (by kernel_rfl) rfl (fun K hK => ?_)
              rw [if_pos (by rfl)]
              go_simp
              have hS2 : Below wr.heap.size wr (w1.alloc (.cells #[.bool z] 4)) := hS1.alloc hS1.size _
              refine hK.out _ _ (fun _ _ => hS2) ?_
              clear hK K
              try simp only [Act.put, List.setIfInBounds_toArray, List.set_cons_zero, List.set_cons_succ]
              have O2 := hide1 ((own_below HOL.out hS1).alloc (.cells #[.bool z] 4))
              have hz1 := hS1.size
              refine ready_f 19 (o := { dst := some 80, op := Op.call { callee := Callee.builtin Builtin.append, args := #[Operand.tmp 61, Operand.tmp 79], argTypes := #[25, 25] }, type := 25, pos := "ref.go:95", after := #[{ on := 0, ground := Ground.data }, { on := 18, ground := Ground.data }, { on := 8, ground := Ground.chain }], guard := none }) (by kernel_rfl) rfl (fun K hK => ?_)
              rw [if_pos (by rfl)]
              refine wp_append_lies _ _ _ 25 rfl wo.heap.size 4 i4 (.bool false) 1 1 Try.underlying25 hi4 hy0 hy1 hy2 rfl (by decide) _ _ _ rfl O2.out ⟨w1.heap.size, 0, none⟩ 1 1 [.bool z] rfl rfl (cell_one_new _ _ _) (by simp [Value.oneCell']) (by decide) (by unfold maxLen; omega) (by omega) (by simp; omega) (w1.heap.size + 1) (by simp) ?_
              intro g9 cap9 w9 hown9 hgrow9 hlies9 _
              refine hK.out _ _ (fun h => absurd (by decide) h) ?_
              clear hK K
              try simp only [Act.put, List.setIfInBounds_toArray, List.set_cons_zero, List.set_cons_succ]
              refine take_p 20 16 (.slice (some ⟨g9, 0, none⟩) (k + 1) cap9) rfl rfl (by kernel_rfl) (by kernel_rfl) (by kernel_rfl) (fun _ _ _ h => h) rfl (fun w => by go_simp) ?_
              try simp only [List.setIfInBounds_toArray, List.set_cons_zero, List.set_cons_succ]
              refine done_f (by kernel_rfl) ?_ _
              have B9 := hide1 ((HBQ.out.trans (hS2.mono HBQ.out.size)).grown hgrow9 (by have := HBQ.out.size; rw [size_alloc]; omega) (fun b hb => (O2.out.lt b hb).1))
              have e9 := HEZ.out
              rw [e9] at hown9
              have HO9 := hide1 hown9
              clear hS hS1 hS2 hown9 hgrow9 hlies9 O2 kB CT CD CL CY HZ
              go_wp2
              go_roundw
              case rel => exact ⟨k + 1, by omega, by go_num, HO9.out, B9.out⟩
              case measure => simp [intOf]; omega
          · obtain rfl : k = ni := by omega
            have hkl := keyC_len fk d0 d1 F k L i HLL.out
            have htk : (keyC fk d0 d1 F k L i).take k = keyC fk d0 d1 F k L i := List.take_of_length_le (by omega)
            have hol := HOL.out
            rw [htk] at hol
            have hcb := T.own_bl hol hkl
            have M2 := hide1 ((HT3.out.below hbq).below (T.below_alloc1 wr (.cells #[.slice ia k ic] 25)))
            have BC := hide1 (hcb.below (T.below_alloc1 wr (.cells #[.slice ia k ic] 25)) (Nat.le_refl _))
            have hb4 := B3.out.trans (hbq.mono B3.out.size)
            have B4 := hide1 (hb4.alloc hb4.size (.cells #[.slice ia k ic] 25))
            have A4 := hide1 ((A3.out.to hbq).to (T.below_alloc1 wr (.cells #[.slice ia k ic] 25)))
            have hsz4 := hb4.size
            have FC : Hid (∀ x, ia.map (·.block) = some x → x < (wr.alloc (.cells #[.slice ia k ic] 25)).heap.size ∧ (Value.slice la i lc).ownBlock ≠ some x) := fun x hx => by
              have h1 : wo.heap.size ≤ x ∧ x < wr.heap.size := by
                cases ia with
                | none => cases hx
                | some ad => cases hx; exact hol.lt ad.block rfl
              exact ⟨by rw [size_alloc]; omega, fun h9 => by have := (HT3.out.ns.own.lt x h9).2; omega⟩
            clear hol hcb hb4 hbq HOL HBQ htk hkl HTL3 VL3 HT3 B3 A3 kz
            go_wp2_with (at_builtin; go_must (refine wpList_append_lies _ rfl _ _ 48 rfl w1.heap.size 25 i5 (.slice none 0 0) 1 24 Try.underlying48 hi5 hx0 hx1 hx2 rfl (by decide) _ _ _ rfl M2.out.ns.own ⟨wr.heap.size, 0, none⟩ 1 1 [.slice ia k ic] rfl rfl (cell_one_new _ _ _) (by simp [Value.oneCell']) (by decide) (by unfold maxLen; omega) (by omega) (by simp; omega) (wr.heap.size + 1) (by simp) ?_); intro g9 cap9 w9 hown9 hgrow9 hlies9 _)
            go_roundw
            case rel =>
              have T11 := M2.out.add FC.out BC.out hown9 hgrow9 (by
                rcases hlies9 with h | h
                · exact .inl h
                · exact .inr (by simpa using h))
              have hbo : ∀ b, (Value.slice la i lc).ownBlock = some b → w1.heap.size ≤ b := fun b hb => (M2.out.ns.own.lt b hb).1
              refine ⟨i + 1, _, _, _, by omega, by go_num, T11, fun q hq => ?_, ⟨A4.out.bel.grown hgrow9 (by have := HSZ1.out; simp; omega) (fun b hb => by have := hbo b hb; have := HSZ1.out; omega), ?_⟩, B4.out.grown hgrow9 (by simp; omega) hbo⟩
              · by_cases e : q = i
                · rw [e]; exact ⟨if_pos rfl, HNI.out.symm⟩
                · exact ⟨(if_neg e).trans (HNN.out q (by omega)).1, (HNN.out q (by omega)).2⟩
              · rw [hgrow9.block w.heap.size (T.lt_heap A4.out.h1) (fun e => by have := hbo _ e.symm; have := HSZ1.out; omega)]
                exact A4.out.h1
            case measure => simp [intOf]; omega
      · have t2 : ((ni : Int) != (N : Int)) = true := by rw [bne_iff_ne]; omega
        have HAL : Hid (alf 128 nn N = false) := decide_eq_false (fun h => hne (by rw [HNI.out]; exact h i hlt))
        clear hne
        go_wp2
        go_ret2
        exact ⟨none, 0, 0, 11, rfl, ⟨fun j hj => by omega, T.rowV_lt _⟩, .inr ⟨rfl, rfl, HAL.out⟩, HA.out.bel⟩
    · obtain rfl : i = 128 := by omega
      have kR := hide1 (rrows_any wr _ N aB nB cB _ (HT.out.brd (by omega)) (fun i hi => (HNN.out i hi).1) hN)
      have HAL : Hid (alf 128 nn N = true) := decide_eq_true (fun i hi => (HNN.out i hi).2)
      clear hbe
      go_wp2_with fail
      go_at_call 31
      refine kR.out.mono ?_
      rintro e w5 ⟨ra, rc, rfl, hrw, hb5⟩
      have RW := hide1 hrw
      have A5 := hide1 (HA.out.to hb5)
      clear hrw hb5 kR
      go_wp2
      go_ret2
      exact ⟨ra, N, rc, 0, rfl, RW.out, .inl ⟨rfl, rfl, HAL.out⟩, A5.out.bel⟩
end Go.Proofs.Ytdahnbojnleboaa.I
