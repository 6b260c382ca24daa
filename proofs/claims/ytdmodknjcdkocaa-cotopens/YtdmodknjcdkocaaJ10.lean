/- Bytes of a stream: the program's. -/
import Derived.Test.YtdmodknjcdkocaaJ02
import Derived.Test.YtdmodknjcdkocaaJ09
namespace Go.Proofs.Ytdmodknjcdkocaa.Pg
open Go.RowKit
set_option maxRecDepth 100000
attribute [local go_sem] not_any

theorem exec_load_row {P : Program} {o : Oper} {tmps : Array Value} {ds : List Deferred} {w : World} (ty : TypeId) (x : Operand) (ho : o.op = .load ty x)
    (g : Nat) (hx : Act.eval ⟨tmps, ds⟩ x = .pointer (some ⟨g, 0, none⟩)) (t : TypeId) (cs : Array Value) (n : Nat) (e : TypeId) (hg : w.heap[g]? = some (.cells cs t (0, 0)))
    (hu : P.underlying ty = some (.array n e)) (hi : (P.info? ty).map (·.size) = some cs.size) : (execOp (Act.eval ⟨tmps, ds⟩) o).run P w = .ok (.value (.agg cs)) w := by
  unfold execOp
  simp only [ho, hx, Instr.loadAt, Instr.sureAddr, Sem.run_bind, Sem.run_pure, Result.andThen_ok, run_loadVar_row w g t ty cs (0, 0) _ hg hu rfl hi]

theorem run_left (s : ByteArray) (p : Nat) (h2 : p ≤ s.size) (w : World) : (Instr.slice 9 (.string s) (some (.int .i64 (p : Int))) none none).run Try.prog w = .ok (.string (s.extract p s.size)) w := run_from s p h2 w

/- the stream's byte i, and N of them -/
def sy (kl : List Nat) (x i : Nat) : Nat := at0 (blockP kl (nonceP x 0) (i / 64)) (i % 64)
def byt (kl : List Nat) (x F N : Nat) : List Nat := (List.range N).map (fun i => sy kl x (F + i))
theorem sy_lt (kl : List Nat) (x i : Nat) : sy kl x i < 256 := (blockP_lt _ _ _).at (by omega) _
theorem byt_length (kl : List Nat) (x F N : Nat) : (byt kl x F N).length = N := by simp [byt]
theorem byt_at {kl : List Nat} {x F N i : Nat} (h : i < N) : at0 (byt kl x F N) i = sy kl x (F + i) := by rw [byt, at0_map_range h]
theorem byt_lt (kl : List Nat) (x F N : Nat) : Lt 256 (byt kl x F N) := by
  intro y hy
  simp only [byt, List.mem_map] at hy
  obtain ⟨i, _, rfl⟩ := hy
  exact sy_lt _ _ _
theorem strT_at (kl n : List Nat) (c : Nat) : ∀ k i, i < 64 * k → at0 (strT kl n c k) i = at0 (blockP kl n (c + i / 64)) (i % 64)
  | 0, i, h => by omega
  | k + 1, i, h => by
    rw [strT]
    by_cases hi : i < 64 * k
    · rw [at0_append_left (by rw [strT_length]; exact hi), strT_at kl n c k i hi]
    · rw [at0_append_right (by rw [strT_length]; omega), strT_length, show i / 64 = k by omega, show i - 64 * k = i % 64 by omega]
theorem strT_byt (kl : List Nat) (x F N k : Nat) (h : F % 64 + N ≤ 64 * k) : ((strT kl (nonceP x 0) (F / 64) k).drop (F % 64)).take N = byt kl x F N := by
  refine at0_ext (by rw [List.length_take, List.length_drop, strT_length, byt_length]; omega) (fun i hi => ?_)
  rw [List.length_take, List.length_drop, strT_length] at hi
  have hi' : i < N := by omega
  rw [at0_take hi', at0_drop, strT_at _ _ _ _ _ (by omega), byt_at hi', sy, show (F + i) / 64 = F / 64 + (F % 64 + i) / 64 by omega, show (F + i) % 64 = (F % 64 + i) % 64 by omega]
theorem byt_stream (kl : List Nat) (x F N : Nat) : (streamP kl (nonceP x 0) (F / 64) (F % 64 + N)).drop (F % 64) = byt kl x F N := by
  rw [streamP, List.drop_take, Nat.add_sub_cancel_left, strT_byt]
  unfold need
  omega

def bC (f n : Int) : Int := if f < 0 ∨ n < 0 ∨ 32768 < n ∨ 1073741824 - n < f then 2 else 0
def bT (kl : List Nat) (x : Nat) (f n : Int) : ByteArray := if bC f n = 0 then txt (byt kl x f.toNat n.toNat) else ByteArray.empty
theorem bC_no {f n : Int} (h : f < 0 ∨ n < 0 ∨ 32768 < n ∨ 1073741824 - n < f) : bC f n = 2 := if_pos h
theorem bC_yes {F N : Nat} (h : N ≤ 32768) (h2 : F + N ≤ 1073741824) : bC (F : Int) (N : Int) = 0 := if_neg (by omega)
theorem bC_nat {f n : Int} (h : bC f n = 0) : ∃ F N : Nat, f = F ∧ n = N ∧ N ≤ 32768 ∧ F + N ≤ 1073741824 := by
  by_cases hh : f < 0 ∨ n < 0 ∨ 32768 < n ∨ 1073741824 - n < f
  · rw [bC_no hh] at h; omega
  · exact ⟨f.toNat, n.toNat, by omega, by omega, by omega, by omega⟩
theorem bT_yes {kl : List Nat} {x F N : Nat} (h : N ≤ 32768) (h2 : F + N ≤ 1073741824) : bT kl x (F : Int) (N : Int) = txt (byt kl x F N) := by
  rw [bT, if_pos (bC_yes h h2), Int.toNat_natCast, Int.toNat_natCast]
theorem bT_no {kl : List Nat} {x : Nat} {f n : Int} (h : f < 0 ∨ n < 0 ∨ 32768 < n ∨ 1073741824 - n < f) : bT kl x f n = ByteArray.empty := by
  rw [bT, bC_no h, if_neg (by omega)]

set_option maxHeartbeats 2000000 in
theorem bytes_yes (kl : List Nat) (x F N : Nat) (w : World) (hk : kl.length = 32) (bk : Lt 256 kl) (_hx : x < 4294967296) (hN : N ≤ 32768) (hF : F + N ≤ 1073741824) :
    Calls Try.prog 49 #[arr8 kl, .int .u32 (x : Int), .int .i64 (F : Int), .int .i64 (N : Int)] w fun e w' => e = .returned (.tuple #[.string (txt (byt kl x F N)), .int .i64 0]) ∧ Below w.heap.size w w' := by
  obtain ⟨s, hs⟩ : ∃ s, s = F % 64 := ⟨_, rfl⟩
  obtain ⟨c, hc⟩ : ∃ c, c = F / 64 := ⟨_, rfl⟩
  obtain ⟨T, hT⟩ : ∃ T, T = s + N := ⟨_, rfl⟩
  have HT : Shy (nums (txt (nonceP x 0)) = nonceP x 0) := ⟨nums_txt (nonceP_lt x 0)⟩
  have hts : (txt (nonceP x 0)).size = 12 := by rw [nums_size HT.out, nonceP_length]
  have kn := fun w => hide1 (nonce_any x 0 w (by omega))
  have ks := fun w => hide1 (stream_any kl (txt (nonceP x 0)) c (T : Int) w hk bk (by omega))
  have hz : errP (txt (nonceP x 0)).size c (T : Int) = 0 := err_none hts (by omega) (by unfold need; omega)
  have ho : outP kl (txt (nonceP x 0)) c (T : Int) = txt (streamP kl (nonceP x 0) c T) := by rw [outP, if_pos hz, Int.toNat_natCast, HT.out]
  rw [hz, ho] at ks
  have hsz : (txt (streamP kl (nonceP x 0) c T)).size = T := by rw [txt_size (streamP_lt _ _ _ _), streamP_length]
  have hfr := run_left (txt (streamP kl (nonceP x 0) c T)) s (by rw [hsz]; omega)
  have hcut : (txt (streamP kl (nonceP x 0) c T)).extract s (txt (streamP kl (nonceP x 0) c T)).size = txt (byt kl x F N) := by
    apply nums_inj
    rw [nums_extract, nums_txt (streamP_lt _ _ _ _), nums_txt (byt_lt _ _ _ _), List.take_of_length_le (by rw [hsz, List.length_drop, streamP_length]; omega), hT, hc, hs, byt_stream]
  rw [hcut] at hfr
  clear hcut ho hz HT
  generalize txt (streamP kl (nonceP x 0) c T) = ts at *
  generalize txt (nonceP x 0) = tx at *
  generalize txt (byt kl x F N) = tr at *
  have h1 : decide ((F : Int) < 0) = false := by simp
  have h2 : decide ((N : Int) < 0) = false := by simp
  have h3 : decide ((32768 : Int) < (N : Int)) = false := by rw [decide_eq_false_iff_not]; omega
  have h4 : decide (1073741824 - (N : Int) < (F : Int)) = false := by rw [decide_eq_false_iff_not]; omega
  have es : (F : Int) % 64 = (s : Int) := by omega
  have ec : (F : Int) / 64 = (c : Int) := by omega
  have eT : (s : Int) + (N : Int) = (T : Int) := by omega
  have bc : (c : Int) ≤ 16777216 := by omega
  have bT' : (T : Int) ≤ 33000 := by omega
  have bs : (s : Int) < 64 := by omega
  have bN : (N : Int) ≤ 32768 := by omega
  have bF : (F : Int) ≤ 1073741824 := by omega
  have wc1 : IntKind.i64.wrap (c : Int) = (c : Int) := by rw [IntKind.wrap_i64]; omega
  have wc2 : IntKind.u32.wrap (c : Int) = (c : Int) := by rw [IntKind.wrap_u32]; omega
  have wT : IntKind.i64.wrap (T : Int) = (T : Int) := by rw [IntKind.wrap_i64]; omega
  have hu := Try.underlying46
  have hi : (Try.prog.info? 46).map (·.size) = some (u8s kl).toArray.size := by rw [show (u8s kl).toArray.size = 32 by simp [u8s, hk]]; kernel_rfl
  clear hs hc hT hk bk hN hF hsz hts
  unfold arr8 at ks ⊢
  go_enter Try.func49, Try.ntmps49
  go_upto_region 4 with (fail)
  generalize hX : World.alloc w _ = X
  have x0 : X.heap[w.heap.size]? = some (row8 46 kl) := by rw [← hX]; exact heap_alloc_new _ _
  have xb : Below w.heap.size w X := by rw [← hX]; exact (Below.refl _ _).alloc (Nat.le_refl _) _
  have XB := hide1 xb.drew
  clear hX xb
  refine region_f (F := []) (S := fun w' => w'.heap[w.heap.size]? = some (row8 46 kl)) (by kernel_rfl) x0 (fun hS => ?_)
  clear x0
  refine take_f 0 32 (.agg (u8s kl).toArray) [9, 10, 11, 12, 13, 14] rfl rfl (by kernel_rfl) (by kernel_rfl) (by kernel_rfl) (by kernel_rfl) (by kernel_rfl) (by kernel_rfl) (fun _ _ _ h => h) rfl (fun w hSw => by exact exec_load_row 46 (.tmp 4) rfl _ rfl 46 _ _ _ hSw hu hi) hS ?_
  try simp only [List.setIfInBounds_toArray, List.set_cons_zero, List.set_cons_succ]
  refine take_p 1 33 (.int .u32 (x : Int)) rfl rfl (by kernel_rfl) (by kernel_rfl) (by kernel_rfl) (fun _ _ _ h => h) rfl (fun w => by go_simp) ?_
  try simp only [List.setIfInBounds_toArray, List.set_cons_zero, List.set_cons_succ]
  refine take_p 3 35 (.int .i64 (F : Int)) rfl rfl (by kernel_rfl) (by kernel_rfl) (by kernel_rfl) (fun _ _ _ h => h) rfl (fun w => by go_simp) ?_
  try simp only [List.setIfInBounds_toArray, List.set_cons_zero, List.set_cons_succ]
  refine take_p 4 36 (.int .i64 (c : Int)) rfl rfl (by kernel_rfl) (by kernel_rfl) (by kernel_rfl) (fun _ _ _ h => h) rfl (fun w => by go_simp) ?_
  try simp only [List.setIfInBounds_toArray, List.set_cons_zero, List.set_cons_succ]
  refine take_p 5 37 (.int .u32 (c : Int)) rfl rfl (by kernel_rfl) (by kernel_rfl) (by kernel_rfl) (fun _ _ _ h => h) rfl (fun w => by go_simp) ?_
  try simp only [List.setIfInBounds_toArray, List.set_cons_zero, List.set_cons_succ]
  refine take_p 6 38 (.int .i64 (s : Int)) rfl rfl (by kernel_rfl) (by kernel_rfl) (by kernel_rfl) (fun _ _ _ h => h) rfl (fun w => by go_simp) ?_
  try simp only [List.setIfInBounds_toArray, List.set_cons_zero, List.set_cons_succ]
  refine take_p 7 39 (.int .i64 (N : Int)) rfl rfl (by kernel_rfl) (by kernel_rfl) (by kernel_rfl) (fun _ _ _ h => h) rfl (fun w => by go_simp) ?_
  try simp only [List.setIfInBounds_toArray, List.set_cons_zero, List.set_cons_succ]
  refine take_p 8 40 (.int .i64 (T : Int)) rfl rfl (by kernel_rfl) (by kernel_rfl) (by kernel_rfl) (fun _ _ _ h => h) rfl (fun w => by go_simp) ?_
  try simp only [List.setIfInBounds_toArray, List.set_cons_zero, List.set_cons_succ]
  refine ready_f 2 (o := { dst := some 34, op := Op.call { callee := Callee.value (Operand.func 54), args := #[Operand.tmp 33, Operand.const (Value.int IntKind.u64 0)], argTypes := #[72, 49] }, type := 9, pos := "prg.go:34", after := #[{ on := 1, ground := Ground.data }], guard := none }) (by kernel_rfl) rfl (fun K hK => ?_)
  go_simp
  refine (kn _).out.mono ?_
  rintro e w1 ⟨rfl, hb1⟩
  have hS1 := (hb1.block _ (lt_heap hS)).trans hS
  refine hK.out _ _ (fun _ _ => hS1) ?_
  clear hK K
  try simp only [Act.put, List.setIfInBounds_toArray, List.set_cons_zero, List.set_cons_succ]
  have HB1 := hide1 (XB.out.trans (hb1.mono XB.out.size))
  clear hb1 hS
  refine ready_f 9 (o := { dst := some 41, op := Op.call { callee := Callee.value (Operand.func 53), args := #[Operand.tmp 32, Operand.tmp 34, Operand.tmp 37, Operand.tmp 40], argTypes := #[46, 9, 72, 3] }, type := 77, pos := "prg.go:34", after := #[{ on := 0, ground := Ground.data }, { on := 2, ground := Ground.data }, { on := 5, ground := Ground.data }, { on := 8, ground := Ground.data }, { on := 2, ground := Ground.chain }], guard := none }) (by kernel_rfl) rfl (fun K hK => ?_)
  go_simp
  refine (ks _).out.mono ?_
  rintro e w2 ⟨rfl, hb2⟩
  have hS2 := (hb2.block _ (lt_heap hS1)).trans hS1
  refine hK.out _ _ (fun _ _ => hS2) ?_
  clear hK K
  try simp only [Act.put, List.setIfInBounds_toArray, List.set_cons_zero, List.set_cons_succ]
  have HB2 := hide1 (HB1.out.trans (hb2.mono HB1.out.size))
  clear hb2 hS1 hS2
  refine take_p 10 31 (.tuple #[.string ts, .int .i64 0]) rfl rfl (by kernel_rfl) (by kernel_rfl) (by kernel_rfl) (fun _ _ _ h => h) rfl (fun w => by go_simp) ?_
  try simp only [List.setIfInBounds_toArray, List.set_cons_zero, List.set_cons_succ]
  refine take_p 11 42 (.string ts) rfl rfl (by kernel_rfl) (by kernel_rfl) (by kernel_rfl) (fun _ _ _ h => h) rfl (fun w => by go_simp) ?_
  try simp only [List.setIfInBounds_toArray, List.set_cons_zero, List.set_cons_succ]
  refine take_p 12 43 (.int .i64 0) rfl rfl (by kernel_rfl) (by kernel_rfl) (by kernel_rfl) (fun _ _ _ h => h) rfl (fun w => by go_simp) ?_
  try simp only [List.setIfInBounds_toArray, List.set_cons_zero, List.set_cons_succ]
  refine take_p 13 11 (.string ts) rfl rfl (by kernel_rfl) (by kernel_rfl) (by kernel_rfl) (fun _ _ _ h => h) rfl (fun w => by go_simp) ?_
  try simp only [List.setIfInBounds_toArray, List.set_cons_zero, List.set_cons_succ]
  refine take_p 14 12 (.int .i64 0) rfl rfl (by kernel_rfl) (by kernel_rfl) (by kernel_rfl) (fun _ _ _ h => h) rfl (fun w => by go_simp) ?_
  try simp only [List.setIfInBounds_toArray, List.set_cons_zero, List.set_cons_succ]
  refine done_f (by kernel_rfl) ?_ _
  clear kn ks hu hi XB HB1
  go_wp2
  go_ret2
  exact ⟨rfl, HB2.out⟩

theorem bytes_no (kl : List Nat) (x : Int) (f n : Int) (w : World) (h : f < 0 ∨ n < 0 ∨ 32768 < n ∨ 1073741824 - n < f) :
    Calls Try.prog 49 #[arr8 kl, .int .u32 x, .int .i64 f, .int .i64 n] w fun e w' => e = .returned (.tuple #[.string ByteArray.empty, .int .i64 2]) ∧ Below w.heap.size w w' := by
  have hB := fun (o : Obj) => hide1 ((Below.refl w.heap.size w).alloc (Nat.le_refl _) o)
  unfold arr8
  by_cases h1 : f < 0
  · clear h
    go_enter Try.func49, Try.ntmps49
    go_wp2
    go_ret2
    exact ⟨rfl, (hB _).out⟩
  · have h1' : decide (f < 0) = false := by rw [decide_eq_false_iff_not]; exact h1
    by_cases h2 : n < 0
    · clear h
      go_enter Try.func49, Try.ntmps49
      go_wp2
      go_ret2
      exact ⟨rfl, (hB _).out⟩
    · have h2' : decide (n < 0) = false := by rw [decide_eq_false_iff_not]; exact h2
      by_cases h3 : 32768 < n
      · clear h
        go_enter Try.func49, Try.ntmps49
        go_wp2
        go_ret2
        exact ⟨rfl, (hB _).out⟩
      · have h3' : decide (32768 < n) = false := by rw [decide_eq_false_iff_not]; exact h3
        have h4 : 1073741824 - n < f := by omega
        clear h
        go_enter Try.func49, Try.ntmps49
        go_wp2
        go_ret2
        exact ⟨rfl, (hB _).out⟩

theorem bytes_any (kl : List Nat) (x : Nat) (f n : Int) (w : World) (hk : kl.length = 32) (bk : Lt 256 kl) (hx : x < 4294967296) :
    Calls Try.prog 49 #[arr8 kl, .int .u32 (x : Int), .int .i64 f, .int .i64 n] w fun e w' => e = .returned (.tuple #[.string (bT kl x f n), .int .i64 (bC f n)]) ∧ Below w.heap.size w w' := by
  by_cases h : f < 0 ∨ n < 0 ∨ 32768 < n ∨ 1073741824 - n < f
  · rw [bC_no h, bT_no h]
    exact bytes_no kl x f n w h
  · obtain ⟨F, rfl⟩ := Int.eq_ofNat_of_zero_le (show 0 ≤ f by omega)
    obtain ⟨N, rfl⟩ := Int.eq_ofNat_of_zero_le (show 0 ≤ n by omega)
    rw [bC_yes (by omega) (by omega), bT_yes (by omega) (by omega)]
    exact bytes_yes kl x F N w hk bk hx (by omega) (by omega)
end Go.Proofs.Ytdmodknjcdkocaa.Pg
