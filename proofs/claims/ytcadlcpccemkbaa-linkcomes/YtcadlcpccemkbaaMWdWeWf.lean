/- A writer's fields. A writer's words and bits; all that was written. A writer's bits; all that was written. -/
import Derived.Test.YtcadlcpccemkbaaWc
import Derived.Test.YtcadlcpccemkbaaFr
import Derived.BigRegion
namespace Go.Proofs.Ytcadlcpccemkbaa.X
open Go.RowKit
set_option maxRecDepth 100000
attribute [local go_sem] not_any mf_any

theorem wU8_any (g : Nat) (w : World) (L : List Nat) (x : Nat) (h : Wr w g L) (hL : L.length ≤ 1000000000) (hx : x < 256) :
    Calls Try.prog 58 #[.pointer (some ⟨g, 0, none⟩), .int .u8 (x : Int)] w fun e w' => e = .returned (.tuple #[]) ∧ Wr w' g (L ++ fix x 1) ∧ But g w w' := by
  have k := hide1 (number_any g w L x 1 h hL (by omega))
  have e1 : IntKind.u64.wrap (x : Int) = (x : Int) := by rw [IntKind.wrap_u64]; omega
  clear h hL
  go_enter Try.func58, Try.ntmps58
  go_wp2_with (go_at_call 65; refine k.out.mono ?_; rintro e w' ⟨rfl, hw, hb⟩)
  go_end0
  exact ⟨rfl, hw, hb⟩
theorem wU32_any (g : Nat) (w : World) (L : List Nat) (x : Nat) (h : Wr w g L) (hL : L.length ≤ 1000000000) (hx : x < 4294967296) :
    Calls Try.prog 59 #[.pointer (some ⟨g, 0, none⟩), .int .u32 (x : Int)] w fun e w' => e = .returned (.tuple #[]) ∧ Wr w' g (L ++ fix x 4) ∧ But g w w' := by
  have k := hide1 (number_any g w L x 4 h hL (by omega))
  have e1 : IntKind.u64.wrap (x : Int) = (x : Int) := by rw [IntKind.wrap_u64]; omega
  clear h hL
  go_enter Try.func59, Try.ntmps59
  go_wp2_with (go_at_call 65; refine k.out.mono ?_; rintro e w' ⟨rfl, hw, hb⟩)
  go_end0
  exact ⟨rfl, hw, hb⟩
theorem wRaw_any (g : Nat) (w : World) (L : List Nat) (t : ByteArray) (h : Wr w g L) (hL : L.length ≤ 1000000000) (ht : t.size ≤ 1000000000) :
    Calls Try.prog 60 #[.pointer (some ⟨g, 0, none⟩), .string t] w fun e w' => e = .returned (.tuple #[]) ∧ Wr w' g (L ++ nums t) ∧ But g w w' := by
  have k := hide1 (clone_any t w (by omega))
  have HW := hide1 h
  clear h
  go_enter Try.func60, Try.ntmps60
  go_wp2_with fail
  refine k.out.mono ?_
  rintro e w1 ⟨rfl, hb⟩
  have k2 := hide1 (add_any g w1 L t (HW.out.below hb) (by omega))
  clear k hL ht
  go_wp2_with (go_at_call 66; refine k2.out.mono ?_; rintro e w' ⟨rfl, hw, hbt⟩)
  go_end0
  exact ⟨rfl, hw, (But.of_below hb).trans hbt⟩

end Go.Proofs.Ytcadlcpccemkbaa.X

namespace Go.Proofs.Ytcadlcpccemkbaa.X
open Go.RowKit
set_option maxRecDepth 100000
attribute [local go_sem] not_any mf_any

/- words in so many bytes each -/
def wordsB (n : Nat) (ws : List Nat) : List Nat := ws.flatMap (fun x => fix x n)
theorem wordsB_snoc (n : Nat) (ws : List Nat) (x : Nat) : wordsB n (ws ++ [x]) = wordsB n ws ++ fix x n := by simp [wordsB]
theorem wordsB_length (n : Nat) : ∀ ws, (wordsB n ws).length = ws.length * n
  | [] => by simp [wordsB]
  | x :: ws => by
    have h : wordsB n (x :: ws) = fix x n ++ wordsB n ws := by simp [wordsB]
    rw [h, List.length_append, fix_length, wordsB_length n ws, List.length_cons, Nat.add_mul]; omega
theorem wordsB_lt (n : Nat) : ∀ ws, Lt 256 (wordsB n ws)
  | [] => fun x hx => by cases hx
  | x :: ws => by
    have h : wordsB n (x :: ws) = fix x n ++ wordsB n ws := by simp [wordsB]
    rw [h]
    exact (fix_lt n x).append (wordsB_lt n ws)

end Go.Proofs.Ytcadlcpccemkbaa.X

namespace Go.Proofs.Ytcadlcpccemkbaa.X
open Go.RowKit
set_option maxRecDepth 100000
attribute [local go_sem] not_any mf_any

theorem chunks8_lt (l : List Bool) : Lt 256 (chunks 8 l) := fun x hx => by
  obtain ⟨k, hk⟩ := List.mem_iff_getElem?.1 hx
  obtain ⟨_, rfl⟩ := chunks_get' hk
  exact chunk_lt 8 l k
theorem chunks8_length (l : List Bool) : (chunks 8 l).length = need l.length 8 := chunks_length _ _

theorem Wr.drew {w : World} {g : Nat} {L : List Nat} (h : Wr w g L) : Wr w.drew g L := by
  obtain ⟨a, ps, h1, h2, h3⟩ := h
  exact ⟨a, ps, h1, h2, Pcs.keep (w := w) (w' := w.drew) (fun _ _ _ => rfl) h3⟩
theorem Wr.alloc {w : World} {g : Nat} {L : List Nat} (h : Wr w g L) (o : Obj) : Wr (w.alloc o) g L := h.below ((Below.refl _ _).alloc (Nat.le_refl _) _)

theorem byteCells_nums (t : ByteArray) : Lib.byteCells t.data.toList = u8s (nums t) := by simp [Lib.byteCells, u8s, nums]
theorem u8s_length (l : List Nat) : (u8s l).length = l.length := by simp [u8s]
theorem make_row (m : Nat) (hm : m ≤ 1000000000) (w : World) : (Instr.makeSlice 99 (.int .i64 (m : Int)) (.int .i64 (m : Int))).run Try.prog w = .ok (.slice (some ⟨w.heap.size, 0, none⟩) m m) (w.alloc (u8row (List.replicate m 0))) := by
  obtain ⟨i0, hi, hz0, hz1, hz2⟩ := info_parts info5
  have h := run_make (P := Try.prog) w 99 5 i0 _ Try.underlying99 hi hz0 .i64 .i64 (m : Int) (m : Int) (by omega) (by omega) (by rw [hz2]; omega) (by omega)
  rw [h, hz1]
  have e : madeCells (Value.int IntKind.u8 0).cells ((m : Int).toNat * 1) = (u8s (List.replicate m 0)).toArray := by
    apply Array.ext
    · simp [madeCells, u8s]
    · intro j h1 h2
      simp [madeCells, u8s, Value.cells, Nat.mod_one]
  rw [e]
  rfl

theorem bytes_none (g : Nat) (w : World) (hg : w.heap[g]? = some (wrt none)) :
    Calls Try.prog 61 #[.pointer (some ⟨g, 0, none⟩)] w fun e w' => e = .returned (.string ⟨#[]⟩) ∧ w' = w := by
  have c0 : w.cell? ⟨g, 0, none⟩ = some (.pointer none) := by rw [cell_of_row w g 0 _ _ _ hg]; rfl
  clear hg
  go_enter Try.func61, Try.ntmps61
  go_wp2
  go_ret
  exact ⟨rfl, rfl⟩

def lastOf : Value → Nat
  | .pointer (some a) => a.block + 1
  | _ => 0

set_option maxHeartbeats 1000000 in
theorem bytes_some (g : Nat) (w : World) (gp : Nat) (ps : List ByteArray) (hg : w.heap[g]? = some (wrt (some ⟨gp, 0, none⟩))) (hp : Pcs w (g + 1) ps (some ⟨gp, 0, none⟩)) (hL : (cat ps).length ≤ 1000000000) :
    Calls Try.prog 61 #[.pointer (some ⟨g, 0, none⟩)] w fun e w' => e = .returned (.string (txt (cat ps))) ∧ Below w.heap.size w w' := by
  have c0 : w.cell? ⟨g, 0, none⟩ = some (.pointer (some ⟨gp, 0, none⟩)) := by rw [cell_of_row w g 0 _ _ _ hg]; rfl
  have lt := lt_heap hg
  obtain ⟨n, hn⟩ : ∃ n, n = (cat ps).length := ⟨_, rfl⟩
  have cp : w.cell? ⟨gp, 2, none⟩ = some (.int .i64 (n : Int)) := by
    match ps, hp with
    | p :: ps, hp =>
      obtain ⟨gq, b, e1, _, hpc, _⟩ := hp
      cases e1
      rw [cell_of_row w gp 2 _ _ _ hpc, hn]; rfl
  have hmk := make_row n (by omega)
  have HP := hide1 hp
  have HN := hide1 hn
  rw [← hn] at hL
  clear hg hp hn
  go_enter Try.func61, Try.ntmps61
  go_wp2
  clear hmk
  go_loopw [4] (fun pv wr => ∃ a rs tl, pv = .pointer a ∧ cat rs ++ tl = cat ps ∧ Pcs w (g + 1) rs a ∧ wr.heap[w.heap.size]? = some (u8row (List.replicate (cat rs).length 0 ++ tl)) ∧ Below w.heap.size w wr) (fun pv _ => lastOf pv)
  case atStart =>
    refine ⟨_, ps, [], rfl, by simp, HP.out, ?_, (Below.refl _ _).alloc (Nat.le_refl _) _⟩
    rw [List.append_nil, ← HN.out]
    exact heap_alloc_new _ _
  case round =>
    obtain ⟨a, rs, tl, rfl, hcat, hpc, hrow, hB⟩ := hrel
    match rs, hpc with
    | [], hpc =>
      obtain rfl := hpc
      have hcv := text_of (w := wr) (g := w.heap.size) (n := n) (c := n) (bs := cat ps) HN.out.symm (fun j x hj => by
        rw [← hcat] at hj
        exact u8_cell hrow (by simpa [cat] using hj))
      clear hcat hrow
      go_wp2
      go_ret
      exact ⟨rfl, hB⟩
    | t :: rs, hpc =>
      obtain ⟨gq, b, rfl, _, hq, hlast, hrest⟩ := hpc
      obtain ⟨e0, he0⟩ : ∃ e0, e0 = (cat rs).length := ⟨_, rfl⟩
      have hq' := (hB.block gq (lt_heap hq)).trans hq
      have hlq := lt_heap hq
      have ht : (cat (t :: rs)).length = e0 + t.size := by rw [cat, List.length_append, nums_length, he0]
      have hn2 : e0 + t.size + tl.length = n := by rw [HN.out, ← hcat, List.length_append, ht]
      rw [ht] at hq' hrow
      have d0 : wr.cell? ⟨gq, 0, none⟩ = some (.pointer b) := by rw [cell_of_row wr gq 0 _ _ _ hq']; rfl
      have d1 : wr.cell? ⟨gq, 1, none⟩ = some (.string t) := by rw [cell_of_row wr gq 1 _ _ _ hq']; rfl
      have d2 : wr.cell? ⟨gq, 2, none⟩ = some (.int .i64 ((e0 + t.size : Nat) : Int)) := by rw [cell_of_row wr gq 2 _ _ _ hq']; rfl
      obtain ⟨e1, he1⟩ : ∃ e1, e1 = e0 + t.size := ⟨_, rfl⟩
      rw [← he1] at d2
      have hsub : (e1 : Int) - (t.size : Int) = (e0 : Int) := by omega
      have hcut : ∀ W : World, (Instr.slice 99 (.slice (some ⟨w.heap.size, 0, none⟩) n n) (some (.int .i64 (e0 : Int))) none none).run Try.prog W = .ok (.slice (some ⟨w.heap.size, e0, none⟩) (n - e0) (n - e0)) W := fun W => by
        have hs : (sizeOf 5).run Try.prog W = .ok 1 W := by kernel_rfl
        have a1 : (e0 : Int) ≤ (n : Int) := by omega
        have a2 : ¬ n = e0 := by have := hlast.1; omega
        simp [Instr.slice, run_underlying Try.underlying99, Instr.sliceBounds, run_sliceBound, a1, a2, Addr.add_lit]
      have hcp := Lib.run_copy_row_string (P := Try.prog) wr.drew 99 9 3 5 w.heap.size e0 (n - e0) (n - e0) t (u8s (List.replicate (e0 + t.size) 0 ++ tl)).toArray 5 Try.underlying99 size5 hrow (by omega) (by simp [u8s])
      have hY : ((u8s (List.replicate (e0 + t.size) 0 ++ tl)).toArray.toList.take e0 ++ Lib.byteCells t.data.toList ++ (u8s (List.replicate (e0 + t.size) 0 ++ tl)).toArray.toList.drop (e0 + t.size)).toArray = (u8s (List.replicate e0 0 ++ (nums t ++ tl))).toArray := by
        rw [byteCells_nums, List.toList_toArray]
        congr 1
        simp only [u8s, ← List.map_take, ← List.map_drop, ← List.map_append]
        congr 1
        rw [List.take_append_of_le_length (by simp), List.take_replicate, Nat.min_eq_left (by omega), List.drop_append_of_le_length (by simp), List.drop_replicate, Nat.sub_self, List.append_assoc]
        rfl
      rw [hY] at hcp
      have hrow2 : (wr.drew.setRow w.heap.size (u8s (List.replicate e0 0 ++ (nums t ++ tl))).toArray).heap[w.heap.size]? = some (u8row (List.replicate e0 0 ++ (nums t ++ tl))) := setRow_heap _ _ _ _ 5 (0, 0) hrow
      have hB2 : Below w.heap.size w (wr.drew.setRow w.heap.size (u8s (List.replicate e0 0 ++ (nums t ++ tl))).toArray) := hB.drew.trans ⟨rfl, rfl, rfl, by simp, fun k hk => setRow_other _ _ _ _ (by omega)⟩
      obtain ⟨Z, hZ⟩ : ∃ Z, wr.drew.setRow w.heap.size (u8s (List.replicate e0 0 ++ (nums t ++ tl))).toArray = Z := ⟨_, rfl⟩
      rw [hZ] at hcp hrow2 hB2
      have hq2 := (hB2.block gq hlq).trans hq
      have z0 : Z.cell? ⟨gq, 0, none⟩ = some (.pointer b) := by rw [cell_of_row Z gq 0 _ _ _ hq2]; rfl
      have HC : Shy (cat rs ++ (nums t ++ tl) = cat ps) := ⟨by rw [← hcat, cat, List.append_assoc]⟩
      have HRest := hide1 hrest
      have HRow2 := hide1 hrow2
      have HB2 := hide1 hB2
      have HLast := hide1 hlast
      have HE0 : Shy (e0 = (cat rs).length) := ⟨he0⟩
      clear hq hq' hq2 hrow hrow2 hB2 hZ hY hcat hrest hlast he0 ht
      go_wp2
      go_region
      go_wp2
      go_roundw
      case rel => exact ⟨b, rs, nums t ++ tl, rfl, HC.out, HRest.out, by rw [← HE0.out]; exact HRow2.out, HB2.out⟩
      case measure =>
        show lastOf (.pointer b) < gq + 1
        match b with
        | none => exact Nat.succ_pos _
        | some q => have := HLast.out.2 q rfl; show q.block + 1 < gq + 1; omega
theorem wBytes_any (g : Nat) (w : World) (L : List Nat) (h : Wr w g L) (hL : L.length ≤ 1000000000) :
    Calls Try.prog 61 #[.pointer (some ⟨g, 0, none⟩)] w fun e w' => e = .returned (.string (txt L)) ∧ Below w.heap.size w w' := by
  obtain ⟨a, ps, rfl, hg, hp⟩ := h
  match ps, hp with
  | [], hp =>
    obtain rfl := hp
    refine (bytes_none g w hg).mono ?_
    rintro e w' ⟨rfl, rfl⟩
    exact ⟨rfl, Below.refl _ _⟩
  | p :: ps, hp =>
    obtain ⟨gp, b, rfl, _⟩ := id hp
    exact bytes_some g w gp _ hg hp hL
end Go.Proofs.Ytcadlcpccemkbaa.X
