/- Pack. -/
import Derived.Test.YtaghcbmipihpmaaUo
namespace Go.Proofs.Ytaghcbmipihpmaa
open Go.RowKit
set_option maxRecDepth 100000
attribute [local go_sem] not_any

def pkL (L : Nat → List Bool) : Nat → List UInt8
  | 0 => []
  | k + 1 => pkL L k ++ (txt (chunks 8 (L k))).data.toList
theorem built_below {T e B b : Nat} {bs : List Value} {w w' : World} (h : Lib.IsBuilder T e B b bs w) (hb : Below w.heap.size w w') : Lib.IsBuilder T e B b bs w' := by
  rcases h with ⟨h1, v, h2, h3, h4⟩ | ⟨h1, v, h2, h3, h4⟩
  · exact .inl ⟨h1, v, (hb.block _ (lt_heap h2)).trans h2, own_below h3 hb, h4⟩
  · exact .inr ⟨h1, v, (hb.block _ (lt_heap h2)).trans h2, own_below h3 hb, h4⟩
theorem built_lt {T e B b : Nat} {bs : List Value} {w : World} (h : Lib.IsBuilder T e B b bs w) : B ≤ b ∧ b < w.heap.size := by
  rcases h with ⟨h1, v, h2, h3, h4⟩ | ⟨h1, v, h2, h3, h4⟩ <;> exact ⟨h1, lt_heap h2⟩
theorem txt_size (l : List Nat) : (txt l).size = l.length := by simp [txt, strOfNums, ByteArray.size]
theorem pkL_length {L : Nat → List Bool} {N : Nat} {m : Nat} (h : ∀ i, i < m → (L i).length = N) : ∀ k, k ≤ m → (pkL L k).length = k * need N 8
  | 0, _ => by simp [pkL]
  | k + 1, hk => by
    have e : (txt (chunks 8 (L k))).data.toList.length = need N 8 := by
      have := txt_size (chunks 8 (L k))
      rw [chunks_length, h k (by omega)] at this
      rw [← this, Array.length_toList]
      rfl
    rw [pkL, List.length_append, pkL_length h k (by omega), e, Nat.succ_mul]

theorem pack_no (w : World) (m c : Nat) (a : Option Addr) (n : Nat → Nat) (aa : Nat → Option Addr) (L : Nat → List Bool) (hv : Vcs w m a n aa L) (hm : m ≤ 4096) (he : evn m n = false) :
    Calls Try.prog 13 #[.slice a m c] w fun e w' => e = .returned (.tuple #[.string ⟨#[]⟩, .int .i64 11]) ∧ Below w.heap.size w w' := by
  have k := hide1 (even_any w m c a n aa L hv hm)
  rw [he] at k
  go_enter Try.func13, Try.ntmps13
  go_wp2_with fail
  go_at_call 28
  refine k.out.mono ?_
  rintro e w1 ⟨rfl, hb⟩
  have HB := hide1 hb
  clear hb k
  go_wp2
  go_ret2
  exact ⟨rfl, HB.out⟩

set_option maxHeartbeats 4000000 in
theorem pack_yes (w : World) (N c : Nat) (a : Option Addr) (n : Nat → Nat) (aa : Nat → Option Addr) (L : Nat → List Bool) (hv : Vcs w 128 a n aa L) (hn : ∀ i, i < 128 → n i = N) (hN : N ≤ 65536) :
    Calls Try.prog 13 #[.slice a 128 c] w fun e w' => e = .returned (.tuple #[.string ⟨(pkL L 128).toArray⟩, .int .i64 0]) ∧ Below w.heap.size w w' := by
  have k := hide1 (even_any w 128 c a n aa L hv (by omega))
  rw [show evn 128 n = true from decide_eq_true ⟨rfl, fun i hi => (hn i hi).trans (hn 0 (by omega)).symm⟩] at k
  obtain ⟨g, o, rfl, hgl, hcs⟩ := hv.first (by omega)
  have HC := hide1 hcs
  have HV := hide1 hv
  have HN := hide1 hn
  have HL := hide1 (fun i hi => ((hv.vc i hi).len.trans (hn i hi)) : ∀ i, i < 128 → (L i).length = N)
  clear hv hn hcs
  go_enter Try.func13, Try.ntmps13
  go_wp2_with fail
  go_at_call 28
  refine k.out.mono ?_
  rintro e w1 ⟨rfl, hb1⟩
  have A0 : Hid (Lib.IsBuilder 73 5 w1.heap.size w1.heap.size (Lib.byteCells (pkL L 0)) (w1.alloc (.cells #[.pointer none, .slice none 0 0] 73))) := Lib.fresh_isBuilder _ _ w1
  have A1 : Hid (Below w.heap.size w (w1.alloc (.cells #[.pointer none, .slice none 0 0] 73))) := hb1.alloc hb1.size _
  have hle : w.heap.size ≤ w1.heap.size := hb1.size
  clear k hb1
  go_upto_region 4 with (fail)
  generalize w1.alloc (.cells #[.pointer none, .slice none 0 0] 73) = W0 at *
  generalize w1.heap.size = b at *
  go_wp2
  go_loopw [12] (fun i wr => ∃ k : Nat, k ≤ 128 ∧ i = .int .i64 k ∧ Lib.IsBuilder 73 5 b b (Lib.byteCells (pkL L k)) wr ∧ Below w.heap.size w wr) (fun i _ => 128 - (intOf i).toNat)
  case atStart => exact ⟨0, Nat.zero_le _, rfl, A0.out, A1.out⟩
  case round =>
    obtain ⟨k, hk, rfl, hI, hB⟩ := hrel
    clear A0 A1
    have HI := hide1 hI
    have HB := hide1 hB
    clear hI
    by_cases hlt : k < 128
    · have d0 := (hB.cell (p := ⟨g, o + k * 2, none⟩) hgl).trans (HC.out k hlt).1
      have d1 := (hB.cell (p := ⟨g, o + k * 2 + 1, none⟩) hgl).trans (HC.out k hlt).2
      have hv : Vc 0 wr (n k) (aa k) (L k) := (HV.out.vc k hlt).below HB.out (Nat.le_refl _)
      rw [HN.out k hlt] at d0 d1 hv
      obtain ⟨ak, hak⟩ : ∃ ak, ak = aa k := ⟨_, rfl⟩
      rw [← hak] at d1 hv
      clear hak hB
      have V1 := hide1 (hv.alloc (.cells #[.int .i64 N, .slice ak (need N 64) (need N 64)] 32))
      have I1 := hide1 (built_below HI.out (below_alloc1 wr (.cells #[.int .i64 N, .slice ak (need N 64) (need N 64)] 32)))
      have B1 := hide1 (HB.out.alloc HB.out.size (.cells #[.int .i64 N, .slice ak (need N 64) (need N 64)] 32))
      obtain ⟨e0, e1, _⟩ := box2 (heap_alloc_new wr (.cells #[.int .i64 N, .slice ak (need N 64) (need N 64)] 32))
      clear hv
      go_upto_region 7 with (fail)
      generalize wr.alloc (.cells #[.int .i64 N, .slice ak (need N 64) (need N 64)] 32) = W4 at *
      have kY := hide1 (bytes_any 0 W4 N ak (L k) V1.out (by omega))
      have HS : Hid ((Lib.byteCells (pkL L k)).length + (txt (chunks 8 (L k))).size ≤ 140737488355328) := by
        unfold Hid
        have h1 := pkL_length HL.out k (by omega)
        have h2 : need N 8 ≤ 8192 := by rw [need8]; omega
        have h3 : k * need N 8 ≤ 128 * 8192 := Nat.mul_le_mul (by omega) h2
        rw [txt_size, chunks_length, HL.out k hlt]
        rw [Lib.byteCells_length]
        generalize k * need N 8 = z at h1 h3
        omega
      have HP : Hid (Lib.byteCells (pkL L k) ++ Lib.strCells (txt (chunks 8 (L k))) = Lib.byteCells (pkL L (k + 1))) := by
        unfold Hid
        rw [pkL]
        simp [Lib.byteCells, Lib.strCells]
      obtain ⟨tk, htk⟩ : ∃ tk, tk = txt (chunks 8 (L k)) := ⟨_, rfl⟩
      rw [← htk] at kY HS HP
      clear d0 d1 V1 htk
      go_wp2_with fail
      go_at_call 35
      refine kY.out.mono ?_
      rintro e w2 ⟨rfl, hb2⟩
      have I2 := hide1 (built_below I1.out hb2)
      have B2 := hide1 (B1.out.trans (hb2.mono B1.out.size))
      have kW := hide1 (writeString_any b b _ tk w2 I2.out HS.out (Nat.le_of_lt (built_lt I2.out).2))
      rw [HP.out] at kW
      clear hb2 kY I1 B1 e0 e1
      go_wp2_with fail
      go_at_call 34
      refine kW.out.mono ?_
      rintro e w3 ⟨rfl, hi3, hb3⟩
      have I3 := hide1 hi3
      have B3 := hide1 (B2.out.trans (hb3.mono hle))
      clear hi3 hb3 kW
      go_wp2
      go_roundw
      case rel => exact ⟨k + 1, by omega, by go_num, .inr I3.out, B3.out⟩
      case measure => simp [intOf]; omega
    · obtain rfl : k = 128 := by omega
      have kS := hide1 (string_any b b (pkL L 128) wr HI.out (Nat.le_of_lt (built_lt HI.out).2))
      clear hB
      go_wp2_with fail
      go_at_call 36
      refine kS.out.mono ?_
      rintro e w3 ⟨rfl, hb3⟩
      have B3 := hide1 (HB.out.trans (hb3.mono hle))
      clear hb3 kS
      go_wp2
      go_ret2
      exact ⟨rfl, B3.out⟩
end Go.Proofs.Ytaghcbmipihpmaa
