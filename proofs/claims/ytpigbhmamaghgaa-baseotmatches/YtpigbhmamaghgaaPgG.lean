/- Bytes and texts; putWord; Nonce; the walk of ChachaNonces. -/
import Derived.Test.YtpigbhmamaghgaaPgF
import Derived.Laws.BytesString
import Derived.Laws.CopyRow
namespace Go.Proofs.Ytpigbhmamaghgaa.Pg
open Go.RowKit
set_option maxRecDepth 100000
attribute [local go_sem] not_any

def zeros (n : Nat) : List Nat := List.replicate n 0
theorem zeros_length (n : Nat) : (zeros n).length = n := by simp [zeros]

/- a text's bytes -/
def nums (s : ByteArray) : List Nat := s.data.toList.map (fun b => b.toNat)
theorem nums_length (s : ByteArray) : (nums s).length = s.size := by
  rw [nums, List.length_map]
  exact Array.length_toList
theorem nums_lt (s : ByteArray) : Lt 256 (nums s) := by
  intro x hx
  simp only [nums, List.mem_map] at hx
  obtain ⟨b, _, rfl⟩ := hx
  exact b.toNat_lt
theorem nums_extract (s : ByteArray) (a b : Nat) : nums (s.extract a b) = ((nums s).drop a).take (b - a) := by
  obtain ⟨⟨l⟩⟩ := s
  rw [nums, nums, ByteArray.extract_mk]
  simp
theorem nums_append (s t : ByteArray) : nums (s ++ t) = nums s ++ nums t := by
  unfold nums
  rw [ByteArray.data_append]
  simp

/- bytes as a text -/
def txtFrom (r : ByteArray) (l : List Nat) : ByteArray := (l.map (fun n : Nat => (n : Int))).foldl (fun r n => r.push (UInt8.ofNat n.toNat)) r
def txt (l : List Nat) : ByteArray := txtFrom ByteArray.empty l
theorem nums_push (r : ByteArray) (n : Nat) (h : n < 256) : nums (r.push (UInt8.ofNat n)) = nums r ++ [n] := by
  obtain ⟨⟨a⟩⟩ := r
  simp [nums, ByteArray.push, Nat.mod_eq_of_lt h]
theorem nums_from : ∀ (l : List Nat) (r : ByteArray), Lt 256 l → nums (txtFrom r l) = nums r ++ l
  | [], r, _ => by simp [txtFrom]
  | n :: l, r, h => by
    have h1 : n < 256 := h n (List.mem_cons_self ..)
    have := nums_from l (r.push (UInt8.ofNat n)) (fun x hx => h x (List.mem_cons_of_mem _ hx))
    rw [nums_push r n h1, List.append_assoc] at this
    exact this
theorem nums_txt {l : List Nat} (h : Lt 256 l) : nums (txt l) = l := by
  rw [txt, nums_from l _ h]
  rfl
theorem conv_row {w : World} {g cap : Nat} {t : TypeId} {l : List Nat} (h : w.heap[g]? = some (row8 t l)) :
    (convert 59 9 (.slice (some ⟨g, 0, none⟩) l.length cap)).run Try.prog w = .ok (.string (txt l)) w := by
  rw [run_convert_bytes_string w 59 9 5 _ _ _ Try.underlying59 Try.underlying5 Try.underlying9]
  have hl := run_loadCells_list (P := Try.prog) w ⟨g, 0, none⟩ (u8s l) (fun j v hv => by
    rw [Addr.add_lit, Nat.zero_add, cell_of_row w g j _ t (0, 0) h]
    simpa using hv)
  rw [u8s_length] at hl
  have e : u8s l = (l.map (fun n : Nat => (n : Int))).map (Value.int .u8) := by simp [u8s]
  rw [e] at hl
  exact run_bytesToString w _ _ _ _ hl

theorem nums_size {p : ByteArray} {l : List Nat} (h : nums p = l) : p.size = l.length := by rw [← h, nums_length]

/- a text's byte -/
theorem run_index (s : ByteArray) (j : Nat) (h : j < s.size) (w : World) : (Instr.index 9 (.string s) (.int .i64 (j : Int))).run Try.prog w = .ok (.int .u8 (at0 (nums s) j : Nat)) w := by
  have e : at0 (nums s) j = (s[j]).toNat := by
    have h1 : (nums s)[j]? = some (s[j]).toNat := by
      rw [nums, List.getElem?_map]
      have : s.data.toList[j]? = some s[j] := by
        rw [Array.getElem?_toList]
        exact Array.getElem?_eq_getElem (show j < s.data.size from h)
      rw [this]
      rfl
    exact at0_get h1
  rw [e]
  go_simp

theorem run_arrl (T n : Nat) (hT : Try.prog.underlying T = some (.array n 5)) (g p : Nat) (w : World) (h : p < n) :
    (Instr.sliceAt T (.pointer (some ⟨g, 0, none⟩)) (some (.int .i64 (p : Int))) none none).run Try.prog w = .ok (.slice (some ⟨g, p, none⟩) (n - p) (n - p)) w := by
  have hs : (sizeOf 5).run Try.prog w = .ok 1 w := by kernel_rfl
  have a1 : (p : Int) ≤ (n : Int) := by omega
  have a2 : ¬ n = p := by omega
  simp [Instr.sliceAt, Instr.sureAddr, run_underlying hT, Instr.sliceBounds, run_sliceBound, a1, a2, Addr.add_lit]

/- a word's bytes laid from a place on -/
def setB (l : List Nat) (o x : Nat) : Nat → List Nat
  | 0 => l
  | k + 1 => (setB l o x k).set (o + k) (x / 2 ^ (8 * k) % 256)
theorem setB_length (l : List Nat) (o x : Nat) : ∀ k, (setB l o x k).length = l.length
  | 0 => rfl
  | k + 1 => by rw [setB, List.length_set, setB_length l o x k]
theorem setB_lt {l : List Nat} (h : Lt 256 l) (o x : Nat) : ∀ k, Lt 256 (setB l o x k)
  | 0 => h
  | k + 1 => (setB_lt h o x k).set (Nat.mod_lt _ (by omega)) _

set_option maxHeartbeats 1000000 in
theorem put_any (l : List Nat) (x g o m c : Nat) (t : TypeId) (w : World) (hr : w.heap[g]? = some (row8 t l)) (hm : 4 ≤ m) (ho : o + 4 ≤ l.length) :
    Calls Try.prog 34 #[.slice (some ⟨g, o, none⟩) m c, .int .u32 (x : Int)] w fun e w' => e = .returned (.tuple #[]) ∧ w' = w.setRow g (u8s (setB l o x 4)).toArray := by
  have HR := hide1 hr
  have hm4 : (4 : Int) ≤ (m : Int) := by omega
  have Ho := hide1 ho
  clear hr hm ho
  go_enter Try.func34, Try.ntmps34
  go_wp2
  go_loopw [5] (fun i wr => ∃ k : Nat, k ≤ 4 ∧ i = .int .i64 k ∧ wr = w.setRow g (u8s (setB l o x k)).toArray) (fun i _ => 4 - (intOf i).toNat)
  case atStart => exact ⟨0, Nat.zero_le _, rfl, (setRow_self w g _ t (0, 0) HR.out).symm⟩
  case round =>
    obtain ⟨k, hk, rfl, hwr⟩ := hrel
    by_cases hlt : k < 4
    · have hrow : wr.heap[g]? = some (row8 t (setB l o x k)) := by rw [hwr]; exact setRow_heap _ _ _ _ _ _ HR.out
      have hln : (setB l o x k).length = l.length := setB_length _ _ _ _
      have c1 := cell8 hrow (j := o + k) (by rw [hln]; have := Ho.out; omega)
      have f1 := frozen_of_row wr g (o + k) _ _ hrow
      have HN : Shy (wr.setCell ⟨g, o + k, none⟩ (.int .u8 ((x / 2 ^ (8 * k) % 256 : Nat) : Int)) = w.setRow g (u8s (setB l o x (k + 1))).toArray) := ⟨by
        rw [setCell_eq_setRow wr g (o + k) _ t (0, 0) _ hrow, hwr, setRow_setRow, setB]
        congr 1
        simp [u8s]⟩
      have hki : (k : Int) < 4 := by omega
      have hkm : (k : Int) < (m : Int) := by omega
      obtain ⟨p, hp⟩ : ∃ p, p = 8 * k := ⟨_, rfl⟩
      have ep : 8 * (k : Int) = (p : Int) := by omega
      have hp32 : (p : Int) < 32 := by omega
      rw [← hp] at HN
      obtain ⟨z, hz⟩ : ∃ z, z = x / 2 ^ p % 256 := ⟨_, rfl⟩
      have ez : (x : Int) / 2 ^ p % 256 = (z : Int) := by
        rw [hz, Int.natCast_emod, Int.natCast_ediv, Int.natCast_pow]; rfl
      have ez' : IntKind.u8.wrap ((x : Int) / 2 ^ p) = (z : Int) := by rw [IntKind.wrap_u8, ez]
      rw [← hz] at HN
      clear hz hp hwr hrow hln
      go_wp2
      go_roundw
      case rel => exact ⟨k + 1, by omega, by go_num, HN.out⟩
      case measure => simp [intOf]; omega
    · have : k = 4 := by omega
      subst this
      have HW := hide1 hwr
      clear hwr
      go_wp2
      go_end0
      exact ⟨rfl, HW.out⟩
end Go.Proofs.Ytpigbhmamaghgaa.Pg
