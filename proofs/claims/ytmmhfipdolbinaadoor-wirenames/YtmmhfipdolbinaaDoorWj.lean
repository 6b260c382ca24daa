/- The chapter's example. -/
import Derived.Test.YtmmhfipdolbinaaDoorWg
namespace Go.Proofs.YtmmhfipdolbinaaDoor
open Go.RowKit
set_option maxRecDepth 100000
attribute [local go_sem] not_any mf_any

def exA : It := ⟨1, 258, ⟨#[]⟩, 0, none, 0, 0, [], none, 0, 0, []⟩
def exB (g : Nat) : It := ⟨5, 0, ⟨#[]⟩, 12, some ⟨g, 0, none⟩, 2, 2, [1, 300], none, 0, 0, []⟩
def exW (w : World) : World := (w.alloc (.cells #[.int .u64 1, .int .u64 300] 25)).alloc (.cells #[.int .i64 1, .int .u64 258, .string ⟨#[]⟩, .int .i64 0, .slice none 0 0, .slice none 0 0, .int .i64 5, .int .u64 0, .string ⟨#[]⟩, .int .i64 12, .slice (some ⟨w.heap.size, 0, none⟩) 2 2, .slice none 0 0] 42)

theorem nl_none (w : World) : Nl w 0 none [] := ⟨rfl, fun k x h => by simp at h⟩
theorem bl_none (w : World) : Bl w 0 none [] := ⟨rfl, fun k x h => by simp at h⟩
theorem ex_its (w : World) : Its (exW w) 2 (some ⟨w.heap.size + 1, 0, none⟩) [exA, exB w.heap.size] := by
  have h0 : (exW w).heap[w.heap.size]? = some (wrow [1, 300]) := heap_alloc2_old _ _ _
  have h1 : (exW w).heap[w.heap.size + 1]? = some (.cells #[.int .i64 1, .int .u64 258, .string ⟨#[]⟩, .int .i64 0, .slice none 0 0, .slice none 0 0, .int .i64 5, .int .u64 0, .string ⟨#[]⟩, .int .i64 12, .slice (some ⟨w.heap.size, 0, none⟩) 2 2, .slice none 0 0] 42 (0, 0)) := heap_alloc2_new _ _ _
  refine ⟨rfl, fun k i hk => ?_⟩
  match k, hk with
  | 0, hk =>
    obtain rfl := Option.some.inj hk
    refine ⟨⟨_, 0, rfl, ?_⟩, nl_none _, bl_none _, by decide, by decide⟩
    constructor <;> (rw [cell_of_row (exW w) _ _ _ _ _ h1]; rfl)
  | 1, hk =>
    obtain rfl := Option.some.inj hk
    refine ⟨⟨_, 0, rfl, ?_⟩, ⟨rfl, fun j x hj => ⟨_, 0, rfl, ?_⟩⟩, bl_none _, by simp [exB], by simp [exB]⟩
    · constructor <;> (rw [cell_of_row (exW w) _ _ _ _ _ h1]; rfl)
    · rw [Nat.zero_add]
      exact row_cell h0 hj
  | k + 2, hk => simp at hk
theorem ex_fit (g : Nat) : ∀ i ∈ [exA, exB g], Fit i := by
  intro i hi
  rcases List.mem_cons.1 hi with rfl | hi
  · exact ⟨by decide, by decide, by decide, fun h => by cases h⟩
  · obtain rfl := List.mem_singleton.1 hi
    exact ⟨by simp [exB, ByteArray.size], by simp [exB], by simp [exB], fun _ => ⟨by simp [exB], by simp [exB]⟩⟩
theorem ex_txt (g : Nat) : txt (itsB [exA, exB g]) = ⟨#[0, 0, 1, 2, 0, 0, 0, 2, 0, 1, 1, 44]⟩ := by
  have h1 : itB exA = [0, 0, 1, 2] := by rw [itB1 rfl]; rfl
  have h2 : itB (exB g) = [0, 0, 0, 2, 0, 1, 1, 44] := by rw [itB5 rfl]; simp [exB, fix, wordsB]
  have : itsB [exA, exB g] = [0, 0, 1, 2, 0, 0, 0, 2, 0, 1, 1, 44] := by simp [itsB, h1, h2]
  rw [this]
  rfl

theorem awake_any (w : World) : Calls Tryd.prog 5 #[] w fun e w' => e = .returned (.bool true) ∧ Below w.heap.size w w' := by
  have k := hide1 (written_any (exW w) 2 2 _ _ (ex_its w) (ex_fit _) (by decide))
  rw [ex_txt] at k
  unfold exW at k
  go_enter Tryd.func5, Tryd.ntmps5
  go_wp2_with (go_at_call 13; refine k.out.mono ?_; rintro e w1 ⟨rfl, hb⟩)
  go_ret
  refine ⟨rfl, (((Below.refl _ _).alloc (Nat.le_refl _) _).alloc (by simp) _).trans (hb.mono ?_)⟩
  simp
  omega
end Go.Proofs.YtmmhfipdolbinaaDoor
