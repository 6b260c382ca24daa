/- The document's Pack. -/
import Derived.Test.YtaghcbmipihpmaaUv
namespace Go.Proofs.Ytaghcbmipihpmaa
open Go.RowKit
set_option maxRecDepth 100000
attribute [local go_sem] not_any

theorem pk_app (L : Nat → List Bool) (k : Nat) : (⟨(pkL L k).toArray⟩ : ByteArray) ++ txt (chunks 8 (L k)) = ⟨(pkL L (k + 1)).toArray⟩ := by
  apply ByteArray.ext
  rw [ByteArray.data_append, pkL]
  simp
theorem pk_size (L : Nat → List Bool) (k : Nat) : (⟨(pkL L k).toArray⟩ : ByteArray).size = (pkL L k).length := by
  show (pkL L k).toArray.size = _
  simp
theorem pkL_le {L : Nat → List Bool} {m : Nat} (h : ∀ i, i < m → (L i).length ≤ 65536) : ∀ k, k ≤ m → (pkL L k).length ≤ k * 8192
  | 0, _ => by simp [pkL]
  | k + 1, hk => by
    have e : (txt (chunks 8 (L k))).data.toList.length ≤ 8192 := by
      have := txt_size (chunks 8 (L k))
      rw [chunks_length, need8] at this
      have h2 := h k (by omega)
      rw [Array.length_toList]
      show (txt (chunks 8 (L k))).size ≤ _
      omega
    have := pkL_le h k (by omega)
    rw [pkL, List.length_append]
    omega

set_option maxHeartbeats 2000000 in
theorem rpack_any (w : World) (m : Nat) (v : Value) (ab : Nat → Option Addr) (nn cc : Nat → Nat) (L : Nat → List Bool) (hv : Brd w v m ab nn cc L) (hm2 : m ≤ 4096) (hn : ∀ i, i < m → nn i ≤ 65536) :
    Calls Try.prog 14 #[v] w fun e w' => e = .returned (.string ⟨(pkL L m).toArray⟩) ∧ Below w.heap.size w w' := by
  obtain ⟨gv, cv, rfl, hgl, hcs⟩ := hv.at'
  have HC := hide1 hcs
  have HV := hide1 hv
  have HN := hide1 hn
  have HL : Hid (∀ i, i < m → (L i).length ≤ 65536) := fun i hi => by rw [(hv.bl i hi).len]; exact hn i hi
  clear hv hcs hn
  go_enter Try.func14, Try.ntmps14
  go_wp2
  go_loopw [3, 4] (fun sv iv wr => ∃ k : Nat, k ≤ m ∧ iv = .int .i64 k ∧ sv = .string ⟨(pkL L k).toArray⟩ ∧ Below w.heap.size w wr) (fun _ iv _ => m - (intOf iv).toNat)
  case atStart => exact ⟨0, Nat.zero_le _, rfl, rfl, Below.refl _ _⟩
  case round =>
    obtain ⟨k, hk, rfl, rfl, hB⟩ := hrel
    have HB := hide1 hB
    by_cases hlt : k < m
    · have d0 := (hB.cell (p := ⟨gv, k, none⟩) hgl).trans (HC.out k hlt)
      have hbl := (HV.out.bl k hlt).below hB (Nat.le_refl _)
      have hnk := HN.out k hlt
      have kY := hide1 (rbytes_any wr (nn k) (cc k) (ab k) _ hbl (by omega))
      have HAP := hide1 (pk_app L k)
      have s1 := pkL_le HL.out k (by omega)
      have s2 := pk_size L k
      have s3 : (txt (chunks 8 (L k))).size ≤ 8192 := by
        rw [txt_size, chunks_length, need8]
        have := HL.out k hlt
        omega
      obtain ⟨sk, hsk⟩ : ∃ sk : ByteArray, sk = ⟨(pkL L k).toArray⟩ := ⟨_, rfl⟩
      obtain ⟨tk, htk⟩ : ∃ tk, tk = txt (chunks 8 (L k)) := ⟨_, rfl⟩
      rw [← hsk] at HAP s2 ⊢
      rw [← htk] at HAP s3 kY
      have z1 : ¬ (9223372036854775807 < sk.size + tk.size) := by omega
      clear hbl hB hsk htk s1 s2 s3
      go_wp2_with fail
      go_at_call 37
      refine kY.out.mono ?_
      rintro e w1 ⟨rfl, hb1⟩
      have HB1 := hide1 (HB.out.trans (hb1.mono HB.out.size))
      clear hb1 kY d0
      go_wp2
      go_roundw
      case rel => exact ⟨k + 1, by omega, by go_num, by rw [HAP.out], HB1.out⟩
      case measure => simp [intOf]; omega
    · obtain rfl : k = m := by omega
      clear hB
      go_wp2
      go_ret
      exact ⟨rfl, HB.out⟩
end Go.Proofs.Ytaghcbmipihpmaa
