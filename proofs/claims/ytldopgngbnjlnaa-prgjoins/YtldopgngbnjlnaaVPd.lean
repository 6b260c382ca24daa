/- Part. -/
import Derived.Test.YtldopgngbnjlnaaVPc
namespace Go.Proofs.Ytldopgngbnjlnaa.V
open Go.RowKit
set_option maxRecDepth 100000
attribute [local go_sem] not_any mf_any field_words

theorem part_or {x y j k : Nat} (hx : x < 18446744073709551616) : bits .or .u64 ((x : Int) / 2 ^ j) (IntKind.u64.wrap ((y : Int) * 2 ^ k)) = ((x / 2 ^ j ||| y * 2 ^ k % 18446744073709551616 : Nat) : Int) := by
  have h1 : x / 2 ^ j < 18446744073709551616 := Nat.lt_of_le_of_lt (Nat.div_le_self _ _) hx
  have e : IntKind.u64.wrap ((y : Int) * 2 ^ k) = ((y * 2 ^ k % 18446744073709551616 : Nat) : Int) := by
    rw [IntKind.wrap_u64, pow_cast, ← Int.natCast_mul]
    rfl
  rw [e, pow_cast, ← Int.natCast_ediv, u64_or_nat _ _ h1 (Nat.mod_lt _ (by omega))]

set_option maxHeartbeats 1000000 in
theorem part1_any (W : World) (p1 p2 g q m c low n b : Nat) (l : List Bool) (i : Nat) (hi : i < m) (hm : q + m = need n 64) (hlow : low < 64) (hn : n ≤ 4194304)
    (h1 : W.heap[p1]? = some (.cells #[.slice (some ⟨g, q, none⟩) m c] 31 (0, 0))) (h2 : W.heap[p2]? = some (.cells #[.int .i64 (low : Int)] 3 (0, 0))) (hv : Vc b W n (some ⟨g, 0, none⟩) l) :
    Calls Try.prog 47 #[.int .i64 i, .pointer (some ⟨p1, 0, none⟩), .pointer (some ⟨p2, 0, none⟩)] W fun e w' => e = .returned (.int .u64 (partWord l q low i : Nat)) ∧ ∃ p os, w' = Sort.grow (W.drewN p) os := by
  have mixed := mixed
  obtain ⟨_, e, _, hg, hc⟩ := hv.cell (show q + i < need n 64 by omega)
  cases e
  have hmm : need n 64 ≤ 65536 := by rw [need64]; omega
  have c1 := cell_grown (lt_heap h1) (a := ⟨p1, 0, none⟩) (v := .slice (some ⟨g, q, none⟩) m c) (by rw [cell_of_row W p1 0 _ _ _ h1]; rfl)
  have c2 := cell_grown (lt_heap h2) (a := ⟨p2, 0, none⟩) (v := .int .i64 (low : Int)) (by rw [cell_of_row W p2 0 _ _ _ h2]; rfl)
  have c4 := cell_grown (lt_heap hg) hc
  have hWt : ∀ (k : Nat) (os : Array Obj), Hid (Calls Try.prog 48 #[.slice (some ⟨g, q, none⟩) m c, .int .i64 ((i : Int) + 1)] (Sort.grow (W.drewN k) os) fun e w' => e = .returned (.int .u64 (chunk 64 l (q + i + 1) : Nat)) ∧ ∃ p os', w' = Sort.grow ((Sort.grow (W.drewN k) os).drewN p) os') := fun k os => by
    have h := wordAt_any (Sort.grow (W.drewN k) os) g q m c l q (i + 1) (by rw [hv.len]; exact hm) (by rw [hv.len]; exact hn) rfl (heap_gr hg k os) (by omega)
    have e : (((i + 1 : Nat)) : Int) = (i : Int) + 1 := by omega
    rw [e, ← Nat.add_assoc] at h
    exact h
  have hx := chunk64_lt l (q + i)
  have hy := chunk64_lt l (q + i + 1)
  clear h1 h2 hv hg hc
  go_enter Try.func47, Try.ntmps47
  go_wp2
  refine wp_region_quiet_grown (by assumption) (by kernel_rfl) ?_
  repeat (go_big_quiet_step (exact Calls.grown_of (hWt _ _).out))
  refine wpQuiet_nil ?_
  intro w1 hw1
  obtain ⟨⟨nq, osq⟩, rfl⟩ := hw1
  go_wp2
  go_ret
  refine ⟨?_, nq, osq, rfl⟩
  show Ending.returned (.int .u64 (bits .or .u64 ((chunk 64 l (q + i) : Nat) / 2 ^ low) (IntKind.u64.wrap ((chunk 64 l (q + i + 1) : Nat) * 2 ^ (64 - low))))) = _
  rw [part_or hx]
  rfl

end Go.Proofs.Ytldopgngbnjlnaa.V
