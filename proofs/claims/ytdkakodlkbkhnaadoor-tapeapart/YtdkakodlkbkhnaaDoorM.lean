/- Seed, and the document's Seed. -/
import Derived.Test.YtdkakodlkbkhnaaDoorL
import Derived.Laws.Tables
namespace Go.Proofs.YtdkakodlkbkhnaaDoor
open Go.RowKit
set_option maxRecDepth 100000
attribute [local go_sem] not_any mf_any

def u8s (l : List Nat) : List Value := l.map (fun n : Nat => Value.int .u8 (n : Int))
def row8 (t : TypeId) (l : List Nat) : Obj := .cells (u8s l).toArray t (0, 0)
def arr8 (l : List Nat) : Value := .agg (u8s l).toArray
theorem u8s_length (l : List Nat) : (u8s l).length = l.length := by simp [u8s]
theorem u8s_one (l : List Nat) : ∀ v ∈ u8s l, v.oneCell' = true := by
  intro v hv
  obtain ⟨n, _, rfl⟩ := List.mem_map.1 hv
  rfl
theorem all_one {cs : List Value} (h : ∀ v ∈ cs, v.oneCell' = true) : cs.toArray.all (·.oneCell') = true := by
  simpa using h
theorem cell8 {w : World} {g j : Nat} {t : TypeId} {l : List Nat} (h : w.heap[g]? = some (row8 t l)) (hj : j < l.length) : w.cell? ⟨g, j, none⟩ = some (.int .u8 (at0 l j : Nat)) := by
  rw [cell_of_row w g j _ t (0, 0) h]
  simp [u8s, get_at0 hj]
theorem set8 {w : World} {g j x : Nat} {t : TypeId} {l : List Nat} (h : w.heap[g]? = some (row8 t l)) : (w.setCell ⟨g, j, none⟩ (.int .u8 (x : Int))).heap[g]? = some (row8 t (l.set j x)) := by
  rw [heap_setCell_same w g j _ t _ h]
  unfold row8 u8s
  congr 2
  simp

/- a whole row stored -/
theorem wpList_store_own {P : Program} {ops : Array Oper} {rest : List Oper} {o : Oper} {a : Act} {w : World} {Q : Exit → Act → World → Prop} (hgd : o.guard = none) (ty : TypeId) (x y : Operand) (ho : o.op = .store ty x y)
    (g : Nat) (hx : a.eval x = .pointer (some ⟨g, 0, none⟩)) (cs' : Array Value) (hy : a.eval y = .agg cs') (t : TypeId) (cs : Array Value) (hg : w.heap[g]? = some (.cells cs t (0, 0)))
    (hi : (P.info? ty).map (·.size) = some cs'.size) (hs : cs.size = cs'.size) (h1 : cs'.all (·.oneCell') = true)
    (h : wpList P ops Q rest (a.put o.dst undef) (w.setRow g cs')) : wpList P ops Q (o :: rest) a w :=
  wpList_plain hgd fun K hK => by
    have e := run_storeVar_row (P := P) w g t ty cs cs' hg hi hs h1
    unfold Oper.wp execOp
    simp only [ho, hx, hy, Instr.storeAt, Instr.sureAddr, Sem.run_bind, Sem.run_pure, Result.andThen_ok, e]
    exact hK _ _ h

theorem ret_seed {fn : Func} {p u : Tmp} (h : fn.results = #[.cell p 51, .tmp u]) {R : Ending → World → Prop} {a : Act} {w : World} (g : Nat) (l : List Nat) (z : Value) (hl : l.length = 32) (hp : a.tmps.getD p undef = .pointer (some ⟨g, 0, none⟩))
    (hu : a.tmps.getD u undef = z) (hg : w.heap[g]? = some (row8 51 l)) (hd : a.defers = []) (hR : R (.returned (.tuple #[arr8 l, z])) w) : bodyPost Tryd.prog fn R .ret a w := by
  refine bodyPost_ret (v := .tuple #[arr8 l, z]) ?_ hd hR
  have hz : (u8s l).toArray.size = 32 := by simp [u8s, hl]
  have hlo := run_loadVar_row (P := Tryd.prog) w g 51 51 (u8s l).toArray (0, 0) _ hg Tryd.underlying51 rfl (by rw [hz]; kernel_rfl)
  rw [results_cell_tmp h, hp, hu]
  simp [asAddr, hlo, Result.andThen, arr8]

theorem ret_seed1 {fn : Func} {p : Tmp} (h : fn.results = #[.cell p 51]) {R : Ending → World → Prop} {a : Act} {w : World} (g : Nat) (l : List Nat) (hl : l.length = 32) (hp : a.tmps.getD p undef = .pointer (some ⟨g, 0, none⟩))
    (hg : w.heap[g]? = some (row8 51 l)) (hd : a.defers = []) (hR : R (.returned (arr8 l)) w) : bodyPost Tryd.prog fn R .ret a w :=
  bodyPost_ret (results_cell_row (P := Tryd.prog) h _ w g 51 (u8s l).toArray (0, 0) _ hp hg Tryd.underlying51 rfl (by rw [show (u8s l).toArray.size = 32 by simp [u8s, hl]]; kernel_rfl)) hd hR

theorem Below.setRow' {B g : Nat} {w0 w : World} (hb : Below B w0 w) (hBg : B ≤ g) (cs : Array Value) : Below B w0 (w.setRow g cs) :=
  hb.trans ⟨rfl, rfl, rfl, by simp [World.setRow], fun k hk => setRow_other w g k cs (by omega)⟩

/- the bytes of a seed -/
def sdB (l : List Nat) (i : Nat) : Nat := at0 l (i / 8) / 2 ^ (8 * (i % 8)) % 256
def sdTo (q : Nat) (l : List Nat) : List Nat := (List.range 32).map fun i => if i < q then sdB l i else 0
def sdP (l : List Nat) : List Nat := (List.range 32).map (sdB l)
theorem sdTo_length (q : Nat) (l : List Nat) : (sdTo q l).length = 32 := by simp [sdTo]
theorem sdP_length (l : List Nat) : (sdP l).length = 32 := by simp [sdP]
theorem sdTo_zero (l : List Nat) : sdTo 0 l = zeros 32 := by
  unfold sdTo zeros
  apply List.ext_getElem
  · simp
  · intro i h1 h2
    rw [List.getElem_replicate]
    simp
theorem sdTo_all (l : List Nat) : sdTo 32 l = sdP l := by
  unfold sdTo sdP
  apply List.map_congr_left
  intro i hi
  rw [if_pos (by simpa using hi)]
theorem sdTo_step {q : Nat} (l : List Nat) : (sdTo q l).set q (sdB l q) = sdTo (q + 1) l := by
  apply List.ext_getElem
  · simp [sdTo]
  · intro i h1 h2
    rw [List.getElem_set]
    by_cases hi : q = i
    · subst hi
      rw [if_pos rfl]
      simp [sdTo]
    · rw [if_neg hi]
      simp only [sdTo, List.getElem_map, List.getElem_range]
      by_cases h3 : i < q
      · rw [if_pos h3, if_pos (by omega)]
      · rw [if_neg h3, if_neg (by omega)]
theorem sdP_nil : sdP [] = zeros 32 := by decide +kernel

def SeedPost (w : World) (t b k : Nat) (ws : List Nat) (e : Ending) (w' : World) : Prop :=
  ∃ v, e = .returned (.tuple #[arr8 (sdP (takeL 4 k ws)), v]) ∧ IsE w' (takeC 4 k ws.length) v ∧ Tp w' t b (takeK 4 k ws.length) ws.length ∧ Kp (fun j _ => j = t) w w'

theorem zeros_size : (u8s (zeros 32)).toArray.size = 32 := by simp [u8s, zeros]

set_option maxHeartbeats 4000000 in
theorem seed_far (t b k : Nat) (ws : List Nat) (w : World) (ht : Tp w t b k ws.length) (hL : ws.length ≤ 1048576) (hn : ws.length < k + 4) :
    Calls Tryd.prog 15 #[.pointer (some ⟨t, 0, none⟩)] w (SeedPost w t b k ws) := by
  have h1 : ¬ (4 : Int) < 0 := by omega
  have h2 : ((ws.length : Nat) : Int) < (k : Int) + 4 := by omega
  have HP : Shy (takeK 4 k ws.length = k ∧ takeC 4 k ws.length = 10 ∧ takeL 4 k ws = []) := ⟨by simp only [takeK, takeC, takeL, if_neg h1, if_pos h2, and_self]⟩
  have HBW : Hid (Below w.heap.size w (w.alloc (row8 51 (zeros 32)))) := (Below.refl _ _).alloc (Nat.le_refl _) _
  have HK := hide1 (take_far t b k ws.length 4 (w.alloc (row8 51 (zeros 32))) (ht.below HBW.out ht.lt) hL hn)
  have HT := hide1 ht
  have HZ : Hid ((w.alloc (row8 51 (zeros 32))).heap[w.heap.size]? = some (row8 51 (zeros 32))) := World.alloc_heap_new _ _
  have hsz : (w.alloc (row8 51 (zeros 32))).heap.size = w.heap.size + 1 := by simp
  have HSZ := hide1 hsz
  clear ht hL hn h1 h2 hsz
  go_enter Tryd.func15, Tryd.ntmps15
  go_wp2_with fail
  go_at_call 10
  refine HK.out.mono ?_
  rintro e w1 ⟨rfl, h3, h4⟩
  have r1 := (h4.block _ (lt_of_heap HZ.out)).trans HZ.out
  have H := hide1 (And.intro h3 h4)
  have R1 := hide1 r1
  clear h3 h4 r1
  rw [HSZ.out]
  go_wp2_with (first | (refine wpList_store_own rfl 51 (.tmp 2) (.tmp 15) rfl w.heap.size rfl (u8s (zeros 32)).toArray rfl 51 _ R1.out (by rw [zeros_size]; kernel_rfl) (by rw [zeros_size]) (all_one (u8s_one _)) ?_) | fail)
  refine ret_seed Tryd.results15 w.heap.size (zeros 32) _ (by simp [zeros]) rfl rfl (setRow_heap _ _ _ _ _ _ R1.out) rfl ⟨_, by rw [HP.out.2.2, sdP_nil], ?_, ?_, ?_⟩
  · rw [HP.out.2.1]
    obtain ⟨s, hs⟩ := H.out.1
    rw [HSZ.out] at hs
    exact .inr ⟨rfl, _, rfl, s, (setRow_other w1 w.heap.size (w.heap.size + 1) _ (by omega)).trans hs⟩
  · rw [HP.out.1]
    exact HT.out.below (Below.setRow' (HBW.out.trans (H.out.2.mono (by simp))) (Nat.le_refl _) _) HT.out.lt
  · exact Kp.ofBelow (Below.setRow' (HBW.out.trans (H.out.2.mono (by simp))) (Nat.le_refl _) _)

set_option maxHeartbeats 4000000 in
theorem seed_yes (t b k : Nat) (ws : List Nat) (w : World) (ht : Tp w t b k ws.length) (hr : w.heap[b]? = some (wrow ws)) (hs : Small ws) (hL : ws.length ≤ 1048576) (hn : k + 4 ≤ ws.length) :
    Calls Tryd.prog 15 #[.pointer (some ⟨t, 0, none⟩)] w (SeedPost w t b k ws) := by
  have h1 : ¬ (4 : Int) < 0 := by omega
  have h2 : ¬ ((ws.length : Nat) : Int) < (k : Int) + 4 := by omega
  have HP : Shy (takeK 4 k ws.length = k + 4 ∧ takeC 4 k ws.length = 0 ∧ takeL 4 k ws = (ws.drop k).take 4) := ⟨by unfold takeK takeC takeL; rw [if_neg h1, if_neg h2, if_neg h1, if_neg h2, if_neg h1, if_neg h2]; exact ⟨rfl, rfl, rfl⟩⟩
  have HSm := hide1 (small_take hs 4 k)
  rw [HP.out.2.2] at HSm
  have HBW : Hid (Below w.heap.size w (w.alloc (row8 51 (zeros 32)))) := (Below.refl _ _).alloc (Nat.le_refl _) _
  have HK := hide1 (take_yes t b k 4 ws (w.alloc (row8 51 (zeros 32))) (ht.below HBW.out ht.lt) ((HBW.out.block _ (lt_of_heap hr)).trans hr) hL hn)
  have Htl := hide1 ht.lt
  have HZ : Hid ((w.alloc (row8 51 (zeros 32))).heap[w.heap.size]? = some (row8 51 (zeros 32))) := World.alloc_heap_new _ _
  have hsz : (w.alloc (row8 51 (zeros 32))).heap.size = w.heap.size + 1 := by simp
  have HSZ := hide1 hsz
  have HLP := hide1 (len_part hn)
  clear ht hL hn h1 h2 hsz hr hs
  go_enter Tryd.func15, Tryd.ntmps15
  go_wp2_with fail
  go_at_call 10
  refine HK.out.mono ?_
  rintro e w1 ⟨rfl, h3, h4, h5⟩
  obtain ⟨l, hl⟩ : ∃ l, (ws.drop k).take 4 = l := ⟨_, rfl⟩
  rw [hl] at h3 HSm HLP
  have HLd : Shy ((ws.drop k).take 4 = l) := ⟨hl⟩
  have r1 := h5.same _ _ HZ.out (by have := Htl.out; omega)
  rw [HSZ.out] at h3
  have H := hide1 (And.intro h4 h5)
  have R1 := hide1 r1
  have M3 := hide1 (mn_row h3)
  clear h3 h4 h5 r1 hl
  rw [HSZ.out]
  go_wp2
  generalize hX : World.alloc w1 _ = X
  have x1 : X.heap[w1.heap.size]? = some (row8 51 (zeros 32)) := by rw [← hX]; exact World.alloc_heap_new w1 _
  have xb : Below w1.heap.size w1 X := by rw [← hX]; exact (Below.refl _ _).alloc (Nat.le_refl _) _
  have X1 := hide1 x1
  have XB := hide1 xb
  obtain ⟨g, hg⟩ : ∃ v, v = w1.heap.size := ⟨_, rfl⟩
  rw [← hg] at X1 ⊢
  have Hg : Shy (g = w1.heap.size) := ⟨hg⟩
  clear hX x1 xb hg
  go_loopw [17] (fun i wr => ∃ j : Nat, j ≤ 32 ∧ i = .int .i64 (j : Int) ∧ wr.heap[g]? = some (row8 51 (sdTo j l)) ∧ Below w1.heap.size w1 wr) (fun i _ => 32 - (intOf i).toNat)
  case atStart => exact ⟨0, Nat.zero_le _, rfl, by rw [sdTo_zero]; exact X1.out, XB.out⟩
  case round =>
    obtain ⟨j, hj, rfl, hrow, hbe⟩ := hrel
    by_cases hlt : j < 32
    · have hji : (j : Int) < 32 := by omega
      have hc := (M3.out.to (hbe.block _ M3.out.lt)).cell (j := j / 8) (by rw [HLP.out]; omega)
      have HST : Shy ((sdTo j l).set j (sdB l j) = sdTo (j + 1) l) := ⟨sdTo_step l⟩
      have hxl := HSm.out.at0 (j / 8)
      have HSB : Shy (sdB l j = at0 l (j / 8) / 2 ^ (8 * (j % 8)) % 256) := ⟨rfl⟩
      have hbc := cell8 hrow (j := j) (by rw [sdTo_length]; exact hlt)
      have hbf : wr.frozen? ⟨g, j, none⟩ = false := frozen_of_row wr g j _ 51 hrow
      obtain ⟨d, hd⟩ : ∃ d, d = j / 8 := ⟨_, rfl⟩
      obtain ⟨s, hs⟩ : ∃ s, s = 8 * (j % 8) := ⟨_, rfl⟩
      rw [← hd] at hc HSB hxl
      rw [← hs] at HSB
      have hd4 : d < 4 := by omega
      have hdw : IntKind.i64.wrap ((j : Int) / 8) = (d : Int) := by rw [IntKind.wrap_i64]; omega
      have hsw : IntKind.i64.wrap (8 * ((j : Int) % 8)) = (s : Int) := by rw [IntKind.wrap_i64]; omega
      have hmin : min s 64 = s := by omega
      generalize at0 l d = x at *
      have hval : ((x : Int) / 2 ^ s % 256) = ((sdB l j : Nat) : Int) := by
        rw [HSB.out, Int.natCast_emod, Int.natCast_ediv, Int.natCast_pow]
        rfl
      have HR := hide1 hrow
      have HE := hide1 hbe
      clear hrow hbe hd hs
      go_wp2
      go_roundw
      case rel => exact ⟨j + 1, by omega, by go_num, by rw [← HST.out]; exact set8 HR.out, HE.out.setCell (by show _ ≤ g; rw [Hg.out]; exact Nat.le_refl _) _⟩
      case measure => simp [intOf]; omega
    · have : j = 32 := by omega
      subst this
      rw [sdTo_all] at hrow
      have HR := hide1 hrow
      have HE := hide1 hbe
      have hs1 : w.heap.size < w1.heap.size := lt_of_heap R1.out
      have r2 := (hbe.block _ hs1).trans R1.out
      have R2 := hide1 r2
      have HPz : Shy ((u8s (sdP l)).toArray.size = 32) := ⟨by simp [u8s, sdP_length]⟩
      clear hrow hbe r2
      rw [show ((32 : Nat) : Int) = 32 from rfl]
      go_wp2_with (first | (refine wpList_load_row rfl 51 (.tmp 6) rfl g rfl 51 (u8s (sdP l)).toArray (0, 0) _ HR.out Tryd.underlying51 rfl (by rw [HPz.out]; kernel_rfl) ?_) | (refine wpList_store_own rfl 51 (.tmp 2) (.tmp 33) rfl w.heap.size rfl (u8s (sdP l)).toArray rfl 51 _ R2.out (by rw [HPz.out]; kernel_rfl) (by rw [HPz.out, zeros_size]) (all_one (u8s_one _)) ?_) | fail)
      have hb2 : Below w.heap.size w1 (wr.setRow w.heap.size (u8s (sdP l)).toArray) := Below.setRow' (HE.out.mono (by omega)) (Nat.le_refl _) _
      refine ret_seed Tryd.results15 w.heap.size (sdP l) _ (sdP_length l) rfl rfl (setRow_heap _ _ _ _ _ _ R2.out) rfl ⟨_, by rw [HP.out.2.2, HLd.out], ?_, ?_, ?_⟩
      · rw [HP.out.2.1]; exact IsE.nil _
      · rw [HP.out.1]; exact H.out.1.below hb2 Htl.out
      · exact ((Kp.ofBelow HBW.out).trans H.out.2).thenB hb2

theorem seed_any (t b k : Nat) (ws : List Nat) (w : World) (ht : Tp w t b k ws.length) (hr : w.heap[b]? = some (wrow ws)) (hs : Small ws) (hL : ws.length ≤ 1048576) :
    Calls Tryd.prog 15 #[.pointer (some ⟨t, 0, none⟩)] w (SeedPost w t b k ws) := by
  by_cases h : ws.length < k + 4
  · exact seed_far t b k ws w ht hL h
  · exact seed_yes t b k ws w ht hr hs hL (by omega)

set_option maxHeartbeats 4000000 in
theorem seed_none (x : Value) (w : World) (h : No w x) :
    Calls Tryd.prog 15 #[x] w fun e w' => e = .returned (.tuple #[arr8 (zeros 32), .iface 93 (.pointer (some ⟨w.heap.size + 1, 0, none⟩))]) ∧ Rt w' (w.heap.size + 1) 3 ∧ Below w.heap.size w w' := by
  have HBW : Hid (Below w.heap.size w (w.alloc (row8 51 (zeros 32)))) := (Below.refl _ _).alloc (Nat.le_refl _) _
  have hNo : No (w.alloc (row8 51 (zeros 32))) x := by
    rcases h with h | ⟨t, h, hc⟩
    · exact .inl h
    · exact .inr ⟨t, h, (HBW.out.cell (p := ⟨t, 0, none⟩) (ltc hc)).trans hc⟩
  have HK := hide1 (take_none x 4 (w.alloc (row8 51 (zeros 32))) hNo)
  have HZ : Hid ((w.alloc (row8 51 (zeros 32))).heap[w.heap.size]? = some (row8 51 (zeros 32))) := World.alloc_heap_new _ _
  have hsz : (w.alloc (row8 51 (zeros 32))).heap.size = w.heap.size + 1 := by simp
  have HSZ := hide1 hsz
  clear h hNo hsz
  go_enter Tryd.func15, Tryd.ntmps15
  go_wp2_with fail
  go_at_call 10
  refine HK.out.mono ?_
  rintro e w1 ⟨rfl, h3, h4⟩
  have r1 := (h4.block _ (lt_of_heap HZ.out)).trans HZ.out
  have H := hide1 (And.intro h3 h4)
  have R1 := hide1 r1
  clear h3 h4 r1
  rw [HSZ.out]
  go_wp2_with (first | (refine wpList_store_own rfl 51 (.tmp 2) (.tmp 15) rfl w.heap.size rfl (u8s (zeros 32)).toArray rfl 51 _ R1.out (by rw [zeros_size]; kernel_rfl) (by rw [zeros_size]) (all_one (u8s_one _)) ?_) | fail)
  refine ret_seed Tryd.results15 w.heap.size (zeros 32) _ (by simp [zeros]) rfl rfl (setRow_heap _ _ _ _ _ _ R1.out) rfl ⟨rfl, ?_, ?_⟩
  · obtain ⟨s, hs⟩ := H.out.1
    rw [HSZ.out] at hs
    exact ⟨s, (setRow_other w1 w.heap.size (w.heap.size + 1) _ (by omega)).trans hs⟩
  · exact Below.setRow' (HBW.out.trans (H.out.2.mono (by simp))) (Nat.le_refl _) _

end Go.Proofs.YtdkakodlkbkhnaaDoor
