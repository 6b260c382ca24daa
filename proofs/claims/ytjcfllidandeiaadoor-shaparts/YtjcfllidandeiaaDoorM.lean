/- The document's Padded. -/
import Derived.Test.YtjcfllidandeiaaDoorL
import Derived.Test.YtjcfllidandeiaaDoorP
import Derived.Test.YtjcfllidandeiaaDoorS
import Derived.Laws.BytesString
namespace Go.Proofs.YtjcfllidandeiaaDoor
open Go.RowKit
set_option maxRecDepth 100000
attribute [local go_sem] not_any

def padZ (n : Nat) : Nat := (119 - n % 64) % 64
def lenB (n k : Nat) : Nat := n * 8 / 2 ^ (8 * (7 - k)) % 256
def lenTo (n : Nat) : Nat → List Nat
  | 0 => []
  | k + 1 => lenTo n k ++ [lenB n k]
def padP (l : List Nat) : List Nat := l ++ 128 :: zeros (padZ l.length) ++ lenTo l.length 8

theorem nums_one (b : UInt8) : nums { data := #[b] } = [b.toNat] := rfl

/- bytes as a text -/
def txtFrom (r : ByteArray) (l : List Nat) : ByteArray := (l.map (fun n : Nat => (n : Int))).foldl (fun r n => r.push (UInt8.ofNat n.toNat)) r
def txt (l : List Nat) : ByteArray := txtFrom ByteArray.empty l
theorem nums_push (r : ByteArray) (n : Nat) (h : n < 256) : nums (r.push (UInt8.ofNat n)) = nums r ++ [n] := by
  obtain ⟨⟨a⟩⟩ := r
  simp [nums, ByteArray.push, Nat.mod_eq_of_lt h]
theorem nums_from : ∀ (l : List Nat) (r : ByteArray), Lt 256 l → nums (txtFrom r l) = nums r ++ l
  | [], r, _ => by simp [txtFrom]
  | n :: l, r, h => by
    have h1 : n < 256 := h n (List.mem_cons_self ..)
    have := nums_from l (r.push (UInt8.ofNat n)) (fun x hx => h x (List.mem_cons_of_mem _ hx))
    rw [nums_push r n h1, List.append_assoc] at this
    exact this
theorem nums_txt {l : List Nat} (h : Lt 256 l) : nums (txt l) = l := by
  rw [txt, nums_from l _ h]
  rfl
theorem conv_row {w : World} {g cap : Nat} {t : TypeId} {l : List Nat} (h : w.heap[g]? = some (row8 t l)) :
    (convert 50 9 (.slice (some ⟨g, 0, none⟩) l.length cap)).run Tryd.prog w = .ok (.string (txt l)) w := by
  rw [run_convert_bytes_string w 50 9 5 _ _ _ Tryd.underlying50 Tryd.underlying5 Tryd.underlying9]
  have hl := run_loadCells_list (P := Tryd.prog) w ⟨g, 0, none⟩ (u8s l) (fun j v hv => by
    rw [Addr.add_lit, Nat.zero_add, cell_of_row w g j _ t (0, 0) h]
    simpa using hv)
  rw [u8s_length] at hl
  have e : u8s l = (l.map (fun n : Nat => (n : Int))).map (Value.int .u8) := by simp [u8s]
  rw [e] at hl
  exact run_bytesToString w _ _ _ _ hl

theorem nums_size {p : ByteArray} {l : List Nat} (h : nums p = l) : p.size = l.length := by rw [← h, nums_length]

def PadPost (s : ByteArray) (w : World) (e : Ending) (w' : World) : Prop := ∃ p, e = .returned (.string p) ∧ nums p = padP (nums s) ∧ Below w.heap.size w w'

set_option maxHeartbeats 2000000 in
theorem padded_any (s : ByteArray) (w : World) (hz : s.size ≤ 4096) : Calls Tryd.prog 19 #[.string s] w (PadPost s w) := by
  have z1 : ¬ (9223372036854775807 < s.size + 1) := by omega
  go_enter Tryd.func19, Tryd.ntmps19
  go_wp2
  go_loop [4] (fun v => ∃ (j : Nat) (o : ByteArray), j ≤ padZ s.size ∧ v = .string o ∧ Shy (nums o = nums s ++ 128 :: zeros j)) (fun v => s.size + 65 - strLen v)
  case atStart => exact ⟨0, _, Nat.zero_le _, rfl, ⟨by rw [nums_append]; rfl⟩⟩
  case round =>
    obtain ⟨j, o, hj, rfl, ho⟩ := hrel
    have hsz : o.size = s.size + 1 + j := by
      rw [nums_size ho.out, List.length_append, List.length_cons, nums_length, zeros_length]; omega
    have hj64 : j < 64 := Nat.lt_of_le_of_lt hj (Nat.mod_lt _ (by omega))
    have HS : Shy (o.size = s.size + 1 + j) := ⟨hsz⟩
    have hos : o.size ≤ 4200 := by omega
    have hpz : padZ s.size = (119 - s.size % 64) % 64 := rfl
    by_cases hlt : j < padZ s.size
    · have hb : ((o.size : Int) % 64 != 56) = true := by rw [bne_iff_ne]; omega
      have z2 : ¬ (9223372036854775807 < o.size + 1) := by omega
      clear hsz hpz
      go_wp2
      go_round
      case rel => exact ⟨j + 1, _, hlt, rfl, ⟨by rw [nums_append, ho.out, List.append_assoc, List.cons_append, show nums { data := #[0] } = zeros 1 from rfl, zeros, zeros, List.replicate_append_replicate]; rfl⟩⟩
      case measure =>
        have h1 := HS.out
        have h2 : padZ s.size < 64 := Nat.mod_lt _ (by omega)
        show s.size + 65 - (o ++ { data := #[0] }).size < s.size + 65 - o.size
        rw [ByteArray.size_append, h1]
        show s.size + 65 - (s.size + 1 + j + 1) < _
        omega
    · have hje : j = padZ s.size := by omega
      have hb : ((o.size : Int) % 64 != 56) = false := by rw [bne_eq_false_iff_eq]; omega
      have HE : Shy (nums o = nums s ++ 128 :: zeros (padZ s.size)) := ⟨by rw [← hje]; exact ho.out⟩
      clear hsz hpz hje hj ho HS
      go_wp2
      go_loopw [4, 5] (fun v4 v5 wr => ∃ (k : Nat) (p : ByteArray), k ≤ 8 ∧ v5 = .int .i64 (7 - (k : Int)) ∧ v4 = .string p ∧ Shy (nums p = nums o ++ lenTo s.size k) ∧ Below w.heap.size w wr) (fun _ v5 _ => (intOf v5 + 1).toNat)
      case atStart => exact ⟨0, o, Nat.zero_le _, rfl, rfl, ⟨by simp [lenTo]⟩, Below.refl _ _⟩
      case round =>
        obtain ⟨k, p, hk, rfl, rfl, hp, hbe⟩ := hrel
        have HB := hide1 hbe
        clear hbe
        have hps : p.size ≤ 4300 := by
          rw [nums_size hp.out, List.length_append, nums_length]
          have : (lenTo s.size k).length ≤ 8 := by
            have e : ∀ m, (lenTo s.size m).length = m := by
              intro m
              induction m with
              | zero => rfl
              | succ m ih => rw [lenTo, List.length_append, ih]; rfl
            rw [e]; exact hk
          omega
        by_cases hlt : k < 8
        · obtain ⟨m, hm⟩ : ∃ m, m = 7 - k := ⟨_, rfl⟩
          have em : 7 - (k : Int) = (m : Int) := by omega
          rw [em]
          obtain ⟨q, hq⟩ : ∃ q, q = 8 * m := ⟨_, rfl⟩
          have eq : 8 * (m : Int) = (q : Int) := by omega
          obtain ⟨n8, hn8⟩ : ∃ n8, n8 = s.size * 8 := ⟨_, rfl⟩
          have en8 : 8 * (s.size : Int) = (n8 : Int) := by omega
          have hq56 : (q : Int) ≤ 56 := by omega
          have hn8b : (n8 : Int) ≤ 32768 := by omega
          have z3 : ¬ (9223372036854775807 < p.size + 1) := by omega
          have Hm : Shy (m = 7 - k) := ⟨hm⟩
          have HQ : Shy (q = 8 * m) := ⟨hq⟩
          have Hn8 : Shy (n8 = s.size * 8) := ⟨hn8⟩
          clear hm hq hn8 em
          obtain ⟨z, hz'⟩ : ∃ z, z = n8 / 2 ^ q % 256 := ⟨_, rfl⟩
          have ez : (n8 : Int) / 2 ^ q % 256 = (z : Int) := by
            rw [hz', Int.natCast_emod, Int.natCast_ediv, Int.natCast_pow]; rfl
          have HZ : Shy (lenB s.size k = z) := ⟨by rw [hz', HQ.out, Hn8.out, lenB, Hm.out]⟩
          have hz256 : z < 256 := by rw [hz']; exact Nat.mod_lt _ (by omega)
          have hcv : ∀ v : World, (convert 50 9 (.slice (some ⟨v.heap.size, 0, none⟩) 1 1)).run Tryd.prog (v.alloc (.cells #[Value.int .u8 (z : Int)] 5)) = .ok (.string (txt [z])) (v.alloc (.cells #[Value.int .u8 (z : Int)] 5)) :=
            fun v => conv_row (l := [z]) (heap_alloc_new v (row8 5 [z]))
          have HT : Shy (nums (txt [z]) = [z]) := ⟨nums_txt (lt_one hz256)⟩
          have hts : (txt [z]).size = 1 := by rw [nums_size HT.out]; rfl
          generalize txt [z] = tz at hcv HT hts
          clear hz'
          go_wp2
          go_roundw
          case rel =>
            refine ⟨k + 1, _, by omega, by have := Hm.out; congr 1; omega, rfl, ⟨by rw [nums_append, hp.out, HT.out, lenTo, HZ.out, List.append_assoc]⟩, HB.out.alloc HB.out.size _⟩
          case measure => simp [intOf]
        · have : k = 8 := by omega
          subst this
          have e8 : 7 - ((8 : Nat) : Int) = -1 := rfl
          rw [e8]
          go_wp2
          go_ret
          refine ⟨p, rfl, ?_, HB.out⟩
          rw [hp.out, HE.out, padP, nums_length]
end Go.Proofs.YtjcfllidandeiaaDoor
