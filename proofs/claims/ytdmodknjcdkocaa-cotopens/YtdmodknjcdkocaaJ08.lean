/- A stream's bytes: bytesOf. -/
import Derived.Test.YtdmodknjcdkocaaJ07
namespace Go.Proofs.Ytdmodknjcdkocaa.Pg
open Go.RowKit
set_option maxRecDepth 100000
attribute [local go_sem] not_any

theorem size5 : (Try.prog.info? 5).map (·.size) = some 1 := by kernel_rfl
theorem make_bytes (m : Nat) (hm : m ≤ 4194304) (w : World) : (Instr.makeSlice 88 (.int .i64 (m : Int)) (.int .i64 (m : Int))).run Try.prog w = .ok (.slice (some ⟨w.heap.size, 0, none⟩) m m) (w.alloc (row8 5 (zeros m))) := by
  obtain ⟨i0, hi, hz0, hz1, hz2⟩ := info_of info5
  have h := run_make (P := Try.prog) w 88 5 i0 _ Try.underlying88 hi hz0 .i64 .i64 (m : Int) (m : Int) (by omega) (by omega) (by rw [hz2]; omega) (by omega)
  rw [h, hz1]
  have e : madeCells (Value.int IntKind.u8 0).cells ((m : Int).toNat * 1) = (u8s (zeros m)).toArray := by
    apply Array.ext
    · simp [madeCells, u8s, zeros]
    · intro j h1 h2
      simp [madeCells, u8s, Value.cells, Nat.mod_one, zeros]
  rw [e]
  rfl
theorem run_cutl (w : World) (g n q : Nat) (h1 : q < n) :
    (Instr.slice 88 (.slice (some ⟨g, 0, none⟩) n n) (some (.int .i64 q)) none none).run Try.prog w = .ok (.slice (some ⟨g, q, none⟩) (n - q) (n - q)) w := by
  have hs : (sizeOf 5).run Try.prog w = .ok 1 w := by kernel_rfl
  have a1 : (q : Int) ≤ (n : Int) := by omega
  have a2 : ¬ n = q := by omega
  simp [Instr.slice, run_underlying Try.underlying88, Instr.sliceBounds, run_sliceBound, a1, a2, Addr.add_lit]

theorem step_copy_row {P : Program} {ops : Array Oper} {o : Oper} {a : Act} {w : World} {K : Act → World → Prop} {Q : Exit → Act → World → Prop} {E : Prop} (hgd : o.guard = none) (d s : Operand) (dT sT : TypeId)
    (ho : o.op = .call { callee := .builtin .copy, args := #[d, s], argTypes := #[dT, sT] }) (elem : TypeId) (hu : P.underlying dT = some (.slice elem)) (hsz : (P.info? elem).map (·.size) = some 1)
    (ad : Addr) (dLen dCap sLen sCap g off : Nat) (hd : a.eval d = .slice (some ⟨g, off, none⟩) dLen dCap) (hs : a.eval s = .slice (some ad) sLen sCap)
    (cur : List Value) (t : TypeId) (hg : w.heap[g]? = some (.cells cur.toArray t (0, 0))) (cs : List Value) (hn : cs.length = Nat.min sLen dLen)
    (hsrc : ∀ j v, cs[j]? = some v → w.cell? (ad.add j) = some v)
    (hfit : off + cs.length ≤ cur.length) (h1 : ∀ v ∈ cs, v.oneCell' = true)
    (h : ∀ cs', Hid ((w.setRow g cs').heap[g]? = some (.cells (splice cur off cs).toArray t (0, 0))) → K (a.put o.dst (goInt cs.length)) (w.setRow g cs')) :
    if Region.wanted o (yielded ops a.tmps) = true then Oper.wp P o a w K Q else E := by
  have hw : Region.wanted o (yielded ops a.tmps) = true := by simp [Region.wanted, hgd]
  rw [if_pos hw]
  have hrun := run_copy_row (P := P) w dT sT o.type elem g off dLen dCap ad sLen sCap cur.toArray t cs hu hsz hg hn hsrc (by simpa using hfit) h1
  unfold Oper.wp
  simp [execOp, ho, resolve, invoke, builtin, hd, hs, hrun, Result.andThen]
  exact h _ (show _ = _ by simpa [splice] using setRow_heap w g _ _ t _ hg)

theorem take_get {l : List Nat} {m j : Nat} {v : Value} (h : (u8s (l.take m))[j]? = some v) : (u8s l)[j]? = some v := by
  rw [u8s, List.map_take] at h
  have h1 := (List.getElem?_eq_some_iff.1 h).1
  rw [List.length_take] at h1
  rw [List.getElem?_take_of_lt (by omega)] at h
  exact h

set_option maxHeartbeats 4000000 in
theorem bytesOf_any (kl : List Nat) (s : ByteArray) (c N : Nat) (w : World) (hk : kl.length = 32) (bk : Lt 256 kl) (hs : s.size = 12) (hc : c < 4294967296) (hN : N ≤ 65536) (hcn : c + need N ≤ 4294967296) :
    Calls Try.prog 59 #[arr8 kl, .string s, .int .u32 (c : Int), .int .i64 (N : Int)] w fun e w' =>
      e = .returned (.slice (some ⟨w.heap.size + 1, 0, none⟩) N N) ∧ w'.heap[w.heap.size + 1]? = some (row8 5 (streamP kl (nums s) c N)) ∧ Below w.heap.size w w' := by
  have Hk : Hid ((u8s kl).toArray.size = 32) := by show _ = _; simp [u8s, hk]
  have hL := fun w => hide1 (lay_any kl s c w hk bk hs)
  have HLt : Hid (∀ d, d < 4294967296 → Lt 4294967296 (layP kl (nums s) d)) := fun d hd => layP_lt bk (nums_lt s) hd
  have HCN := hide1 hcn
  have HC := hide1 hc
  have hmk := make_bytes N (by omega)
  have hNi : (N : Int) ≤ 65536 := by omega
  clear hk bk hs hc hcn
  unfold arr8 at hL ⊢
  go_enter Try.func59, Try.ntmps59
  go_upto_region 2 with (fail)
  generalize hW : World.alloc (World.alloc w _) _ = W
  have w0 : W.heap[w.heap.size]? = some (row8 46 kl) := by rw [← hW]; exact heap_alloc2_old _ _ _
  have w1 : W.heap[w.heap.size + 1]? = some (row8 5 (zeros N)) := by rw [← hW]; exact heap_alloc2_new _ _ _
  have wb : Below w.heap.size w W := by rw [← hW]; exact ((Below.refl _ _).alloc (Nat.le_refl _) _).alloc (by simp) _
  have W0 := hide1 w0
  have W1 := hide1 w1
  have WB := hide1 wb
  clear hW w0 w1 wb
  go_wp2_with (first | (refine wpList_load_row rfl 46 (.tmp 4) rfl w.heap.size rfl 46 (u8s kl).toArray (0, 0) _ W0.out Try.underlying46 rfl (by rw [Hk.out]; kernel_rfl) ?_) | fail)
  go_at_call 64
  refine (hL _).out.mono ?_
  rintro e w2 ⟨rfl, hb2⟩
  have B2 := hide1 hb2
  clear hb2 hL
  have Hz : Hid ((u32s (layP kl (nums s) c)).toArray.size = 16) := by show _ = _; simp [u32s, layP_length]
  have HN := hide1 (heap_alloc_new w2 (row32 97 (zeros 16)))
  unfold arr32
  go_wp2_with (first | (refine wpList_store_own rfl 97 (.tmp 10) (.tmp 18) rfl w2.heap.size rfl (u32s (layP kl (nums s) c)).toArray rfl 97 _ HN.out (by rw [Hz.out]; kernel_rfl) (by rw [Hz.out]; simp [u32s, zeros]) (all_one (u32s_one _)) ?_) | fail)
  generalize hX : World.setRow _ _ _ = X
  have x1 : X.heap[w2.heap.size]? = some (row32 97 (layP kl (nums s) c)) := by rw [← hX]; exact setRow_heap _ _ _ _ _ _ HN.out
  have xb2 : Below w2.heap.size w2 X := by rw [← hX]; exact Below.setRow' ((Below.refl _ _).alloc (Nat.le_refl _) _) (Nat.le_refl _) _
  have hw1 : w.heap.size + 1 < W.heap.size := lt_heap W1.out
  have hgg : W.heap.size ≤ w2.heap.size := B2.out.size
  have x0 : X.heap[w.heap.size + 1]? = some (row8 5 (zeros N)) := (xb2.block _ (by omega)).trans ((B2.out.block _ hw1).trans W1.out)
  have xb : Below w.heap.size w X := (WB.out.trans (B2.out.mono (by omega))).trans (xb2.mono (by omega))
  have hgg2 : w.heap.size + 1 < w2.heap.size := by omega
  obtain ⟨gg, hggd⟩ : ∃ v, v = w2.heap.size := ⟨_, rfl⟩
  rw [← hggd] at x1 hgg2 ⊢
  have X1 := hide1 x1
  have X0 := hide1 x0
  have XB := hide1 xb
  have HGG := hide1 hgg2
  clear hX x1 x0 xb xb2 hw1 hgg hgg2 hggd HN W0 W1 WB B2 hmk Hz
  go_loopw [11] (fun i wr => ∃ k n : Nat, k ≤ need N ∧ n = 64 * k ∧ i = .int .i64 n ∧ wr.heap[w.heap.size + 1]? = some (row8 5 (stm kl (nums s) c N k)) ∧ wr.heap[gg]? = some (row32 97 (layP kl (nums s) ((c + k) % 4294967296))) ∧ Below (w.heap.size + 1) X wr) (fun i _ => N - (intOf i).toNat)
  case atStart => exact ⟨0, 0, Nat.zero_le _, rfl, rfl, by rw [stm_zero]; exact X0.out, by rw [Nat.add_zero, Nat.mod_eq_of_lt HC.out]; exact X1.out, Below.refl _ _⟩
  case round =>
    obtain ⟨k, n, hk, hn, rfl, hrow, hgrid, hbe⟩ := hrel
    clear X0 X1
    by_cases hlt : n < N
    · have hck : c + k < 4294967296 := by have := HCN.out; unfold need at this; omega
      have hk2 : k + 1 ≤ need N := by unfold need; omega
      rw [Nat.mod_eq_of_lt hck] at hgrid
      have HCb := hide1 (block_any (layP kl (nums s) (c + k)) gg 97 wr hgrid (layP_length _ _ _) (HLt.out _ hck))
      have HBP : Shy (blkP (layP kl (nums s) (c + k)) = blockP kl (nums s) (c + k)) := ⟨rfl⟩
      rw [HBP.out] at HCb
      have HSP : Shy (splice (u8s (stm kl (nums s) c N k)) n (u8s ((blockP kl (nums s) (c + k)).take (min 64 (N - n)))) = u8s (stm kl (nums s) c N (k + 1))) := ⟨by rw [hn]; exact stm_splice (by omega)⟩
      have HSL : Shy ((stm kl (nums s) c N k).length = N) := ⟨stm_length _ _ _ _ _⟩
      have HBL : Shy ((blockP kl (nums s) (c + k)).length = 64) := ⟨blockP_length _ _ _⟩
      have HLS : Shy ((layP kl (nums s) (c + k)).set 12 ((c + (k + 1)) % 4294967296) = layP kl (nums s) ((c + (k + 1)) % 4294967296)) := ⟨lay_set _ _ _ _⟩
      have HLA : Shy (at0 (layP kl (nums s) (c + k)) 12 = c + k) := ⟨lay_at _ _ _⟩
      have HLN : Shy ((layP kl (nums s) (c + k)).length = 16) := ⟨layP_length _ _ _⟩
      have Hn : Shy (n = 64 * k) := ⟨hn⟩
      generalize blockP kl (nums s) (c + k) = bl at *
      have hni : (n : Int) < (N : Int) := by omega
      have HR := hide1 hrow
      have HG := hide1 hgrid
      have HE := hide1 hbe
      have HGW : Hid (gg < wr.heap.size) := lt_heap hgrid
      clear hrow hgrid hbe hn HBP
      unfold arr8 at HCb
      go_wp2_with fail
      go_at_call 65
      refine HCb.out.mono ?_
      rintro e w3 ⟨rfl, hb3⟩
      have B3 := hide1 hb3
      clear hb3 HCb
      have Hy : Hid ((u8s bl).toArray.size = 64) := by show _ = _; simp [u8s, HBL.out]
      have HN2 := hide1 (heap_alloc_new w3 (row8 99 (zeros 64)))
      go_upto_region 7 with (first | (refine wpList_store_own rfl 99 (.tmp 12) (.tmp 24) rfl w3.heap.size rfl (u8s bl).toArray rfl 99 _ HN2.out (by rw [Hy.out]; kernel_rfl) (by rw [Hy.out]; simp [u8s, zeros]) (all_one (u8s_one _)) ?_) | fail)
      generalize hZ : World.setRow _ _ _ = Z
      have z1 : Z.heap[w3.heap.size]? = some (row8 99 bl) := by rw [← hZ]; exact setRow_heap _ _ _ _ _ _ HN2.out
      have zb3 : Below w3.heap.size w3 Z := by rw [← hZ]; exact Below.setRow' ((Below.refl _ _).alloc (Nat.le_refl _) _) (Nat.le_refl _) _
      have zb : Below wr.heap.size wr Z := B3.out.trans (zb3.mono B3.out.size)
      have zr : Z.heap[w.heap.size + 1]? = some (row8 5 (stm kl (nums s) c N k)) := (zb.block _ (lt_heap HR.out)).trans HR.out
      have zg : Z.heap[gg]? = some (row32 97 (layP kl (nums s) (c + k))) := (zb.block _ HGW.out).trans HG.out
      have zx : Below (w.heap.size + 1) X Z := HE.out.trans (zb.mono (by have := lt_heap HR.out; omega))
      have hbk : wr.heap.size ≤ w3.heap.size := B3.out.size
      obtain ⟨bk, hbkd⟩ : ∃ v, v = w3.heap.size := ⟨_, rfl⟩
      rw [← hbkd] at z1 ⊢
      have Z1 := hide1 z1
      have ZR := hide1 zr
      have ZG := hide1 zg
      have ZX := hide1 zx
      clear hZ z1 zb3 zb zr zg zx hbk hbkd HN2 B3 HR HG HE HGW
      have hsl := fun w' => run_cutl w' (w.heap.size + 1) N n (by omega)
      have HM : Shy ((u8s (bl.take (min 64 (N - n)))).length = Nat.min 64 (N - n)) := ⟨by rw [u8s_length, List.length_take, HBL.out]; show min (min 64 (N - n)) 64 = min 64 (N - n); omega⟩
      go_region_law (refine step_copy_row rfl (.tmp 27) (.tmp 28) 88 88 rfl 5 Try.underlying88 size5 ⟨bk, 0, none⟩ (N - n) (N - n) 64 64 (w.heap.size + 1) n rfl rfl (u8s (stm kl (nums s) c N k)) 5 ZR.out (u8s (bl.take (min 64 (N - n)))) HM.out (fun j v hj => by rw [Addr.add_lit, Nat.zero_add]; exact (cell_of_row _ _ j _ 99 (0, 0) Z1.out).trans (by simpa using take_get hj)) (by rw [HM.out, u8s_length, HSL.out]; show n + min 64 (N - n) ≤ N; omega) (u8s_one _) ?_; intro cs4 hg4)
      rw [HSP.out] at hg4
      generalize hV : World.setRow _ _ _ = V
      have v1 : V.heap[w.heap.size + 1]? = some (row8 5 (stm kl (nums s) c N (k + 1))) := by rw [← hV]; exact hg4.out
      have v2 : V.heap[gg]? = some (row32 97 (layP kl (nums s) (c + k))) := by rw [← hV]; exact (setRow_other _ _ _ _ (by have := HGG.out; omega)).trans ZG.out
      have v3 : Below (w.heap.size + 1) X V := by rw [← hV]; exact Below.setRow' ZX.out.drew (Nat.le_refl _) _
      have cg := cell32 v2 (j := 12) (by rw [HLN.out]; omega)
      rw [HLA.out] at cg
      have fg := frozen_of_row V gg 12 _ _ v2
      have V1 := hide1 v1
      have V2 := hide1 v2
      have V3 := hide1 v3
      clear hV v1 v2 v3 hg4 ZR ZG ZX Z1 HSP HM hsl
      obtain ⟨ck, hckd⟩ : ∃ v, v = c + k := ⟨_, rfl⟩
      rw [← hckd] at cg V2 HLS
      obtain ⟨cn, hcn⟩ : ∃ v, v = (c + (k + 1)) % 4294967296 := ⟨_, rfl⟩
      have ecn : IntKind.u32.wrap ((ck : Int) + 1) = (cn : Int) := by rw [IntKind.wrap_u32]; omega
      rw [← hcn] at HLS
      have Hcn : Shy (cn = (c + (k + 1)) % 4294967296) := ⟨hcn⟩
      clear hcn hckd
      go_wp2
      go_roundw
      case rel =>
        refine ⟨k + 1, n + 64, hk2, by have := Hn.out; omega, by go_num, ?_, ?_, ?_⟩
        · exact (Below.heap_setCell _ _ _ _ (by show w.heap.size + 1 ≠ gg; have := HGG.out; omega)).trans V1.out
        · rw [set32 V2.out, HLS.out, Hcn.out]
        · exact V3.out.setCell (p := ⟨gg, 12, none⟩) (by show w.heap.size + 1 ≤ gg; have := HGG.out; omega) _
      case measure => simp [intOf]; omega
    · have hNn : N ≤ 64 * k := by omega
      rw [stm_end hNn] at hrow
      have HR := hide1 hrow
      have HF := hide1 (XB.out.trans (hbe.mono (by omega)))
      clear hrow hgrid hbe hNn
      go_wp2
      go_ret
      exact ⟨rfl, HR.out, HF.out⟩
end Go.Proofs.Ytdmodknjcdkocaa.Pg
