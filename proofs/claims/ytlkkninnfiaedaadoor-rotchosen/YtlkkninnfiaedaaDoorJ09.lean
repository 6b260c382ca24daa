/- The document's Nonce. A seed made of a seed: Child, and the document's. Rows of 128 bits: Bit, Other, Times, and the document's Bit. The document's Stream. -/
import Derived.Test.YtlkkninnfiaedaaDoorJ06
import Derived.Test.YtlkkninnfiaedaaDoorJ08
import Derived.Test.YtlkkninnfiaedaaDoorJ07
import Derived.Test.YtlkkninnfiaedaaDoorJ01
namespace Go.Proofs.YtlkkninnfiaedaaDoor.Pg
open Go.RowKit
set_option maxRecDepth 100000
attribute [local go_sem] not_any

/- a number's first bytes -/
def lnT (x : Nat) : Nat → List Nat
  | 0 => []
  | k + 1 => lnT x k ++ [x / 256 ^ k % 256]
theorem lnT_length (x : Nat) : ∀ k, (lnT x k).length = k
  | 0 => rfl
  | k + 1 => by rw [lnT, List.length_append, lnT_length x k]; rfl
theorem lnT_nonce (x y : Nat) : lnT x 4 ++ lnT y 8 = nonceP x y := by
  show [x / 1 % 256, x / 256 % 256, x / 65536 % 256, x / 16777216 % 256, y / 1 % 256, y / 256 % 256, y / 65536 % 256, y / 16777216 % 256, y / 4294967296 % 256, y / 1099511627776 % 256, y / 281474976710656 % 256, y / 72057594037927936 % 256] =
    [x / 1 % 256, x / 256 % 256, x / 65536 % 256, x / 16777216 % 256, (y % 4294967296) / 1 % 256, (y % 4294967296) / 256 % 256, (y % 4294967296) / 65536 % 256, (y % 4294967296) / 16777216 % 256, (y / 4294967296 % 4294967296) / 1 % 256, (y / 4294967296 % 4294967296) / 256 % 256, (y / 4294967296 % 4294967296) / 65536 % 256, (y / 4294967296 % 4294967296) / 16777216 % 256]
  congr 4
  congr 1
  · omega
  congr 1
  · omega
  congr 1
  · omega
  congr 1
  · omega
  congr 1
  · omega
  congr 1
  · omega
  congr 1
  · omega
  congr 1
  omega

set_option maxHeartbeats 4000000 in
theorem rnonce_any (x y : Nat) (w : World) (hx : x < 4294967296) (hy : y < 18446744073709551616) :
    Calls Tryd.prog 82 #[.int .u32 (x : Int), .int .u64 (y : Int)] w fun e w' => e = .returned (.string (txt (nonceP x y))) ∧ Below w.heap.size w w' := by
  obtain ⟨i5, hi, hz0, hz1, hz2⟩ := info_of info5
  have HP : Shy (lnT x 4 ++ lnT y 8 = nonceP x y) := ⟨lnT_nonce x y⟩
  have HX := hide1 hx
  have HY := hide1 hy
  clear hx hy
  go_enter Tryd.func82, Tryd.ntmps82
  go_wp2
  go_loopw [0, 5, 6] (fun v0 v5 v6 wr => ∃ k d : Nat, k ≤ 4 ∧ v6 = .int .i64 k ∧ Shy (d = x / 256 ^ k) ∧ v0 = .int .u32 (d : Int) ∧ (∃ a c, v5 = .slice a k c) ∧ wr.ownsRow w.heap.size 5 1 v5 k (u8s (lnT x k)) ∧ Below w.heap.size w wr) (fun _ _ v6 _ => 4 - (intOf v6).toNat)
  case atStart => exact ⟨0, x, Nat.zero_le _, rfl, ⟨by simp⟩, rfl, ⟨none, 0, rfl⟩, World.ownsRow_nil _ _ _ _, Below.refl _ _⟩
  case round =>
    obtain ⟨k, d, hk, rfl, hd, rfl, ⟨a5, c5, rfl⟩, hro, hbe⟩ := hrel
    by_cases hlt : k < 4
    · have hki : (k : Int) < 4 := by omega
      have hdl : d < 4294967296 := by rw [hd.out]; exact Nat.lt_of_le_of_lt (Nat.div_le_self _ _) HX.out
      obtain ⟨b, hb⟩ : ∃ b, b = d % 256 := ⟨_, rfl⟩
      obtain ⟨d', hd'⟩ : ∃ v, v = d / 256 := ⟨_, rfl⟩
      have e1 : IntKind.u8.wrap (d : Int) = (b : Int) := by rw [IntKind.wrap_u8]; omega
      have e2 : (d : Int) / 256 = (d' : Int) := by omega
      have HD : Shy (d' = x / 256 ^ (k + 1)) := ⟨by rw [hd', hd.out, Nat.div_div_eq_div_mul, Nat.pow_succ]⟩
      have HS : Shy (lnT x (k + 1) = lnT x k ++ [b]) := ⟨by rw [lnT, hb, hd.out]⟩
      have bd : (d' : Int) < 4294967296 := by omega
      have HRO := hide1 hro
      have HE := hide1 hbe
      clear hro hbe hb hd' hd hdl
      go_wp2_with (first
        | (at_builtin; go_must (refine wpList_append_lies _ rfl (.tmp 12) (.tmp 15) 80 rfl w.heap.size 5 i5 (.int .u8 0) 1 1 Tryd.underlying80 hi hz0 hz1 hz2 rfl (by decide) (.slice a5 k c5) k (u8s (lnT x k)) rfl (HRO.out.alloc _) ⟨wr.heap.size, 0, none⟩ 1 1 (u8s [b]) rfl rfl (World.news_of_block (heap_alloc_new wr (row8 5 [b]))) (u8s_one _) (by omega) (by unfold maxLen; omega) (by omega) (by have := HE.out.size; rw [size_alloc]; omega) _ rfl ?_; intro g8 cap8 w8 ro8 gr8 wh8 lt8))
        | fail)
      rw [show u8s (lnT x k) ++ u8s [b] = u8s (lnT x (k + 1)) by rw [HS.out]; simp [u8s]] at ro8
      have hb8 : Below w.heap.size w w8 := (HE.out.alloc HE.out.size _).grown gr8 (by rw [size_alloc]; have := HE.out.size; omega) (fun k hk => (HRO.out.lt k hk).1)
      have RO8 := hide1 ro8
      have HB8 := hide1 hb8
      clear ro8 hb8 gr8 wh8 lt8
      go_wp2
      go_roundw
      case rel => exact ⟨k + 1, d', by omega, by go_num, HD, by first | rfl | trivial, ⟨_, _, rfl⟩, RO8.out, HB8.out⟩
      case measure => simp [intOf]; omega
    · have : k = 4 := by omega
      subst this
      have HRO := hide1 hro
      have HE := hide1 hbe
      clear hro hbe hd hlt hk
      obtain ⟨Z, hZ⟩ : ∃ Z, Z = wr := ⟨_, rfl⟩
      subst hZ
      rw [show ((4 : Nat) : Int) = 4 from rfl]
      go_wp2
      go_loopw [1, 5, 7] (fun v1 v5 v7 wr => ∃ k n d : Nat, k ≤ 8 ∧ n = 4 + k ∧ v7 = .int .i64 k ∧ Shy (d = y / 256 ^ k) ∧ v1 = .int .u64 (d : Int) ∧ (∃ a c, v5 = .slice a n c) ∧ wr.ownsRow w.heap.size 5 1 v5 n (u8s (lnT x 4 ++ lnT y k)) ∧ Below w.heap.size w wr) (fun _ _ v7 _ => 8 - (intOf v7).toNat)
      case atStart => exact ⟨0, 4, y, Nat.zero_le _, rfl, rfl, ⟨by simp⟩, rfl, ⟨_, _, rfl⟩, by rw [lnT, List.append_nil]; exact HRO.out, HE.out⟩
      case round =>
        obtain ⟨k, n, d, hk, hn, rfl, hd, rfl, ⟨a6, c6, rfl⟩, hro, hbe⟩ := hrel
        by_cases hlt : k < 8
        · have hki : (k : Int) < 8 := by omega
          have hdl : d < 18446744073709551616 := by rw [hd.out]; exact Nat.lt_of_le_of_lt (Nat.div_le_self _ _) HY.out
          obtain ⟨b, hb⟩ : ∃ b, b = d % 256 := ⟨_, rfl⟩
          obtain ⟨d', hd'⟩ : ∃ v, v = d / 256 := ⟨_, rfl⟩
          have e1 : IntKind.u8.wrap (d : Int) = (b : Int) := by rw [IntKind.wrap_u8]; omega
          have e2 : (d : Int) / 256 = (d' : Int) := by omega
          have HD : Shy (d' = y / 256 ^ (k + 1)) := ⟨by rw [hd', hd.out, Nat.div_div_eq_div_mul, Nat.pow_succ]⟩
          have HS : Shy (lnT y (k + 1) = lnT y k ++ [b]) := ⟨by rw [lnT, hb, hd.out]⟩
          have bd : (d' : Int) < 18446744073709551616 := by omega
          have HRO := hide1 hro
          have HE := hide1 hbe
          have Hn : Shy (n = 4 + k) := ⟨hn⟩
          have hn12 : n ≤ 12 := by omega
          clear hro hbe hb hd' hd hdl hn
          go_wp2_with (first
            | (at_builtin; go_must (refine wpList_append_lies _ rfl (.tmp 23) (.tmp 26) 80 rfl w.heap.size 5 i5 (.int .u8 0) 1 1 Tryd.underlying80 hi hz0 hz1 hz2 rfl (by decide) (.slice a6 n c6) n (u8s (lnT x 4 ++ lnT y k)) rfl (HRO.out.alloc _) ⟨wr.heap.size, 0, none⟩ 1 1 (u8s [b]) rfl rfl (World.news_of_block (heap_alloc_new wr (row8 5 [b]))) (u8s_one _) (by omega) (by unfold maxLen; omega) (by omega) (by have := HE.out.size; rw [size_alloc]; omega) _ rfl ?_; intro g8 cap8 w8 ro8 gr8 wh8 lt8))
            | fail)
          rw [show u8s (lnT x 4 ++ lnT y k) ++ u8s [b] = u8s (lnT x 4 ++ lnT y (k + 1)) by rw [HS.out]; simp [u8s]] at ro8
          have hb8 : Below w.heap.size w w8 := (HE.out.alloc HE.out.size _).grown gr8 (by rw [size_alloc]; have := HE.out.size; omega) (fun k hk => (HRO.out.lt k hk).1)
          have RO8 := hide1 ro8
          have HB8 := hide1 hb8
          clear ro8 hb8 gr8 wh8 lt8
          go_wp2
          go_roundw
          case rel => exact ⟨k + 1, n + 1, d', by omega, by have := Hn.out; omega, by go_num, HD, by first | rfl | trivial, ⟨_, _, rfl⟩, RO8.out, HB8.out⟩
          case measure => simp [intOf]; omega
        · have : k = 8 := by omega
          subst this
          obtain rfl : n = 12 := by omega
          rw [HP.out] at hro
          rcases hro.2 with ⟨_, h0⟩ | ⟨g9, cap9, cur9, hv9, _⟩
          · omega
          · cases hv9
            have hcv2 := conv_own (nonceP_length x y) hro
            obtain ⟨ty, hty⟩ : ∃ ty, ty = txt (nonceP x y) := ⟨_, rfl⟩
            rw [← hty] at hcv2
            have HTY : Shy (ty = txt (nonceP x y)) := ⟨hty⟩
            have HBF := hide1 hbe
            clear hro hty hbe hn hd
            rw [show ((8 : Nat) : Int) = 8 from rfl]
            go_wp2
            go_ret
            exact ⟨by rw [← HTY.out]; rfl, HBF.out⟩
end Go.Proofs.YtlkkninnfiaedaaDoor.Pg

namespace Go.Proofs.YtlkkninnfiaedaaDoor.Pg
open Go.RowKit
set_option maxRecDepth 100000
attribute [local go_sem] not_any

theorem text_cells (s : ByteArray) (n : Nat) : ((s.extract 0 n).data.map fun b => Value.int .u8 b.toNat) = (u8s ((nums s).take n)).toArray := by
  have e := nums_extract s 0 n
  rw [List.drop_zero, Nat.sub_zero] at e
  rw [← e]
  apply Array.ext'
  simp [u8s, nums]
  rfl

/- bytes copied out of a text -/
theorem run_copy_text {w : World} (g off dLen dCap : Nat) (str : ByteArray) (cur : List Value) (t : TypeId) (hg : w.heap[g]? = some (.cells cur.toArray t (0, 0))) (n : Nat) (hn : n = min str.size dLen) (hf : off + n ≤ cur.length) :
    (Builtin.copy_ #[80, 9] 3 #[.slice (some ⟨g, off, none⟩) dLen dCap, .string str]).run Tryd.prog w = .ok (.int .i64 (n : Int)) (w.setRow g (splice cur off (u8s ((nums str).take n))).toArray) := by
  have hu := Tryd.underlying80
  have hsz := size5
  have hl : (u8s ((nums str).take n)).length = n := by rw [u8s_length, List.length_take, nums_length]; omega
  have hst := run_storeCells_at Tryd.prog g off t (u8s ((nums str).take n)) 0 cur.toArray w hg (by rw [hl]; simpa using hf) (u8s_one _)
  have hn' : Nat.min str.size dLen = n := hn.symm
  have hc := text_cells str n
  cases hq : Tryd.prog.info? 5 with
  | none => simp [hq] at hsz
  | some i =>
    have hi : i.size = 1 := by simpa [hq] using hsz
    simp only [Nat.add_zero] at hst
    have hfc : (Builtin.firstCells 1 n (.string str)).run Tryd.prog w = .ok (u8s ((nums str).take n)).toArray w := by
      simp only [Builtin.firstCells]
      rw [hc]
      rfl
    simp [Builtin.copy_, run_underlying hu, Builtin.lenOf, hfc, sizeOf, typeInfo, hq, hi, hn', hst, splice, goInt]

def childP (kl : List Nat) (y : Nat) : List Nat := (blockP kl (nonceP 4294967295 y) 0).take 32
theorem childP_length (kl : List Nat) (y : Nat) : (childP kl y).length = 32 := by rw [childP, List.length_take, blockP_length]; rfl

theorem three_at {w X : World} {A B C : Obj} (h : ((w.alloc A).alloc B).alloc C = X) : X.heap[w.heap.size]? = some A ∧ X.heap[w.heap.size + 1]? = some B ∧ X.heap[w.heap.size + 2]? = some C ∧ Below w.heap.size w X ∧ w.heap.size + 3 ≤ X.heap.size := by
  subst h
  refine ⟨by rw [heap_alloc_old _ _ (by simp; omega), heap_alloc2_old], by rw [heap_alloc_old _ _ (by simp), heap_alloc2_new], by have := heap_alloc_new ((w.alloc A).alloc B) C; simpa using this, ?_, by simp⟩
  exact (((Below.refl _ _).alloc (Nat.le_refl _) _).alloc (by simp) _).alloc (by simp; omega) _

set_option maxHeartbeats 2000000 in
theorem child_any (kl : List Nat) (y : Nat) (w : World) (hk : kl.length = 32) (bk : Lt 256 kl) (hy : y < 18446744073709551616) :
    Calls Tryd.prog 42 #[arr8 kl, .int .u64 (y : Int)] w fun e w' => e = .returned (arr8 (childP kl y)) ∧ Below w.heap.size w w' := by
  obtain ⟨L, hL⟩ : ∃ L, L = nonceP 4294967295 y := ⟨_, rfl⟩
  have HT : Shy (nums (txt (nonceP 4294967295 y)) = nonceP 4294967295 y) := ⟨nums_txt (nonceP_lt _ _)⟩
  have hts : (txt (nonceP 4294967295 y)).size = 12 := by rw [nums_size HT.out, nonceP_length]
  have kn := fun w => hide1 (nonce_any 4294967295 y w hy)
  have kb := fun w => hide1 (bblock_any kl (txt (nonceP 4294967295 y)) 0 w hk bk hts (by omega))
  rw [HT.out] at kb
  have HTb : Shy (nums (txt (blockP kl (nonceP 4294967295 y) 0)) = blockP kl (nonceP 4294967295 y) 0) := ⟨nums_txt (blockP_lt _ _ _)⟩
  have htb : (txt (blockP kl (nonceP 4294967295 y) 0)).size = 64 := by rw [nums_size HTb.out, blockP_length]
  have HLb : Shy ((blockP kl (nonceP 4294967295 y) 0).length = 64) := ⟨blockP_length _ _ _⟩
  have HC : Shy (childP kl y = (blockP kl (nonceP 4294967295 y) 0).take 32) := ⟨rfl⟩
  have HCl : Shy ((childP kl y).length = 32) := ⟨childP_length kl y⟩
  generalize txt (blockP kl (nonceP 4294967295 y) 0) = tb at *
  generalize txt (nonceP 4294967295 y) = tx at *
  generalize blockP kl (nonceP 4294967295 y) 0 = bl at *
  generalize childP kl y = cl at *
  have hu := Tryd.underlying28
  have hi : (Tryd.prog.info? 28).map (·.size) = some (u8s kl).toArray.size := by rw [show (u8s kl).toArray.size = 32 by simp [u8s, hk]]; kernel_rfl
  have hi2 : (Tryd.prog.info? 28).map (·.size) = some (u8s cl).toArray.size := by rw [show (u8s cl).toArray.size = 32 by simp [u8s, HCl.out]]; kernel_rfl
  clear hk bk HT hL L hts
  unfold arr8 at kb ⊢
  clear hy
  go_enter Tryd.func42, Tryd.ntmps42
  go_upto_region 2 with (fail)
  generalize hX : World.alloc (World.alloc (World.alloc w _) _) _ = X
  obtain ⟨x0, x1, x2, xb, xs⟩ := three_at hX
  have HR : Hid (∀ w' : World, Below X.heap.size X w' → w'.heap[w.heap.size]? = some (row8 28 kl)) := fun w' hb => (hb.block _ (lt_heap x0)).trans x0
  have HR1 : Hid (∀ w' : World, Below X.heap.size X w' → w'.heap[w.heap.size + 1]? = some (row8 28 (zeros 32))) := fun w' hb => (hb.block _ (lt_heap x1)).trans x1
  have HR2 : Hid (∀ w' : World, Below X.heap.size X w' → w'.heap[w.heap.size + 2]? = some (row8 28 (zeros 32))) := fun w' hb => (hb.block _ (lt_heap x2)).trans x2
  have XB := hide1 xb
  have XS := hide1 xs
  clear hX x0 x1 x2 xb xs
  refine region_f (F := []) (S := fun w' => Below X.heap.size X w') (by kernel_rfl) ((Below.refl _ _).drew) (fun hS => ?_)
  refine take_f 0 9 (.agg (u8s kl).toArray) [3, 4, 5, 6, 7, 8] rfl rfl (by kernel_rfl) (by kernel_rfl) (by kernel_rfl) (by kernel_rfl) (by kernel_rfl) (by kernel_rfl) (fun _ _ _ h => h) rfl (fun w hSw => by exact exec_load_row 28 (.tmp 2) rfl _ rfl 28 _ _ _ (HR.out _ hSw) hu hi) hS ?_
  try simp only [List.setIfInBounds_toArray, List.set_cons_zero, List.set_cons_succ]
  refine take_p 1 10 (.int .u64 (y : Int)) rfl rfl (by kernel_rfl) (by kernel_rfl) (by kernel_rfl) (fun _ _ _ h => h) rfl (fun w => by go_simp) ?_
  try simp only [List.setIfInBounds_toArray, List.set_cons_zero, List.set_cons_succ]
  refine ready_f 2 (o := { dst := some 11, op := Op.call { callee := Callee.value (Operand.func 60), args := #[Operand.const (Value.int IntKind.u32 4294967295), Operand.tmp 10], argTypes := #[85, 22] }, type := 9, pos := "prg.go:77", after := #[{ on := 1, ground := Ground.data }], guard := none }) (by kernel_rfl) rfl (fun K hK => ?_)
  go_simp
  refine (kn _).out.mono ?_
  rintro e w1 ⟨rfl, hb1⟩
  have hS1 : Below X.heap.size X w1 := hS.trans (hb1.mono hS.size)
  refine hK.out _ _ (fun _ _ => hS1) ?_
  clear hK K
  try simp only [Act.put, List.setIfInBounds_toArray, List.set_cons_zero, List.set_cons_succ]
  clear hb1 hS
  refine ready_f 3 (o := { dst := some 12, op := Op.call { callee := Callee.value (Operand.func 59), args := #[Operand.tmp 9, Operand.tmp 11, Operand.const (Value.int IntKind.u32 0)], argTypes := #[28, 9, 85] }, type := 112, pos := "prg.go:77", after := #[{ on := 0, ground := Ground.data }, { on := 2, ground := Ground.data }, { on := 2, ground := Ground.chain }], guard := none }) (by kernel_rfl) rfl (fun K hK => ?_)
  go_simp
  refine (kb _).out.mono ?_
  rintro e w2 ⟨rfl, hb2⟩
  have hS2 : Below X.heap.size X w2 := hS1.trans (hb2.mono hS1.size)
  refine hK.out _ _ (fun _ _ => hS2) ?_
  clear hK K
  try simp only [Act.put, List.setIfInBounds_toArray, List.set_cons_zero, List.set_cons_succ]
  clear hb2 hS1
  refine take_p 4 8 (.tuple #[.string tb, .int .i64 0]) rfl rfl (by kernel_rfl) (by kernel_rfl) (by kernel_rfl) (fun _ _ _ h => h) rfl (fun w => by go_simp) ?_
  try simp only [List.setIfInBounds_toArray, List.set_cons_zero, List.set_cons_succ]
  refine take_p 5 13 (.string tb) rfl rfl (by kernel_rfl) (by kernel_rfl) (by kernel_rfl) (fun _ _ _ h => h) rfl (fun w => by go_simp) ?_
  try simp only [List.setIfInBounds_toArray, List.set_cons_zero, List.set_cons_succ]
  refine take_p 6 14 (.int .i64 0) rfl rfl (by kernel_rfl) (by kernel_rfl) (by kernel_rfl) (fun _ _ _ h => h) rfl (fun w => by go_simp) ?_
  try simp only [List.setIfInBounds_toArray, List.set_cons_zero, List.set_cons_succ]
  refine take_p 7 6 (.string tb) rfl rfl (by kernel_rfl) (by kernel_rfl) (by kernel_rfl) (fun _ _ _ h => h) rfl (fun w => by go_simp) ?_
  try simp only [List.setIfInBounds_toArray, List.set_cons_zero, List.set_cons_succ]
  refine take_p 8 7 (.int .i64 0) rfl rfl (by kernel_rfl) (by kernel_rfl) (by kernel_rfl) (fun _ _ _ h => h) rfl (fun w => by go_simp) ?_
  try simp only [List.setIfInBounds_toArray, List.set_cons_zero, List.set_cons_succ]
  refine done_f (by kernel_rfl) ?_ _
  have r1 := HR1.out _ hS2
  have r2 := HR2.out _ hS2
  have B2 := hide1 (XB.out.trans (hS2.mono XB.out.size))
  have R1 := hide1 r1
  have R2 := hide1 r2
  clear hS2 kn kb HR HR1 HR2 r1 r2
  have hcp := run_copy_text (w.heap.size + 1 + 1) 0 32 32 tb (u8s (zeros 32)) 28 R2.out 32 (by rw [htb]; rfl) (by rw [u8s_length, zeros_length]; omega)
  rw [show ((32 : Nat) : Int) = 32 from rfl] at hcp
  generalize hY : World.setRow w2 _ _ = Y at hcp
  have y2 : Y.heap[w.heap.size + 2]? = some (row8 28 cl) := by
    rw [← hY, setRow_heap _ _ _ _ _ _ R2.out, row8]
    congr 2
    rw [HC.out, HTb.out, splice]
    have h1 : (u8s (bl.take 32)).length = 32 := by rw [u8s_length, List.length_take, HLb.out]; rfl
    rw [h1]
    simp [u8s, zeros]
  have y1 : Y.heap[w.heap.size + 1]? = some (row8 28 (zeros 32)) := by rw [← hY, setRow_other _ _ _ _ (by omega)]; exact R1.out
  have yb : Below w.heap.size w Y := by rw [← hY]; exact Below.setRow' B2.out (by omega) _
  have Y1 := hide1 y1
  have Y2 := hide1 y2
  have YB := hide1 yb
  have hz0 : (u8s (zeros 32)).toArray.size = (u8s cl).toArray.size := by simp [u8s, zeros, HCl.out]
  have HZ0 := hide1 hz0
  clear hY y1 y2 yb R1 R2 B2 hz0
  go_upto_region 5 with (fail)
  clear hcp
  go_wp2_with (first | (refine wpList_load_row rfl 28 (.tmp 5) rfl (w.heap.size + 2) rfl 28 (u8s cl).toArray (0, 0) _ Y2.out hu rfl hi2 ?_) | (refine wpList_store_own rfl 28 (.tmp 4) (.tmp 20) rfl (w.heap.size + 1) rfl (u8s cl).toArray rfl 28 _ Y1.out hi2 HZ0.out (all_one (u8s_one _)) ?_) | fail)
  refine ret_row Tryd.results42 (w.heap.size + 1) 28 (u8s cl).toArray rfl (setRow_heap _ _ _ _ _ _ Y1.out) hu hi2 rfl ⟨rfl, ?_⟩
  exact Below.setRow' YB.out (by omega) _

end Go.Proofs.YtlkkninnfiaedaaDoor.Pg

namespace Go.Proofs.YtlkkninnfiaedaaDoor
open Go.RowKit Pg
set_option maxRecDepth 100000
attribute [local go_sem] not_any

/- a row, as a value -/
def rw2 (a b : Nat) : Value := .agg #[.int .u64 (a : Int), .int .u64 (b : Int)]
def row2 (a b : Nat) : Obj := .cells #[.int .u64 (a : Int), .int .u64 (b : Int)] 24 (0, 0)
/- a row's bit -/
def bt (a b : Nat) (i : Int) : Bool := if 0 ≤ i ∧ i < 128 then (if i < 64 then a.testBit i.toNat else b.testBit (i.toNat - 64)) else false
theorem bt_no {a b : Nat} {i : Int} (h : i < 0 ∨ 128 ≤ i) : bt a b i = false := if_neg (by omega)
theorem bt_lo {a b k : Nat} (h : k < 64) : bt a b (k : Int) = a.testBit k := by
  rw [bt, if_pos (by omega), if_pos (by omega), Int.toNat_natCast]
theorem bt_hi {a b k : Nat} (h : k < 64) : bt a b ((64 + k : Nat) : Int) = b.testBit k := by
  rw [bt, if_pos (by omega), if_neg (by omega), Int.toNat_natCast, Nat.add_sub_cancel_left]

theorem shr_bit (a k : Nat) : (a / 2 ^ k % 2 == 1) = a.testBit k := by
  rw [Nat.testBit_eq_decide_div_mod_eq]
  rfl
theorem lt_pow {a k : Nat} (h : a < 18446744073709551616) : a / 2 ^ k < 18446744073709551616 := Nat.lt_of_le_of_lt (Nat.div_le_self _ _) h

theorem ret_and (a k : Nat) (h : a < 18446744073709551616) : (bits .and .u64 ((a : Int) / 2 ^ k) 1 == 1) = (a / 2 ^ k % 2 == 1) := by
  have e : (a : Int) / 2 ^ k = ((a / 2 ^ k : Nat) : Int) := by rw [Int.natCast_ediv, Int.natCast_pow]; rfl
  have hl := lt_pow (k := k) h
  rw [e]
  generalize a / 2 ^ k = q at *
  rw [and_one_u64 _ (by omega) (by omega), show (q : Int) % 2 = ((q % 2 : Nat) : Int) by omega]
  generalize q % 2 = z
  rw [Bool.eq_iff_iff, beq_iff_eq, beq_iff_eq]
  omega
theorem ret_mod (a k : Nat) : ((a : Int) / 2 ^ k % 2 == 1) = (a / 2 ^ k % 2 == 1) := by
  have e : (a : Int) / 2 ^ k = ((a / 2 ^ k : Nat) : Int) := by rw [Int.natCast_ediv, Int.natCast_pow]; rfl
  rw [e]
  generalize a / 2 ^ k = q
  rw [show (q : Int) % 2 = ((q % 2 : Nat) : Int) by omega]
  generalize q % 2 = z
  rw [Bool.eq_iff_iff, beq_iff_eq, beq_iff_eq]
  omega
theorem ret_bool {x y : Bool} (h : x = y) : Ending.returned (.bool x) = .returned (.bool y) := by rw [h]

theorem bit_any (a b : Nat) (i : Int) (w : World) (ha : a < 18446744073709551616) (hb : b < 18446744073709551616) :
    Calls Tryd.prog 49 #[rw2 a b, .int .i64 i] w fun e w' => e = .returned (.bool (bt a b i)) ∧ Below w.heap.size w w' := by
  have hB := fun (o : Obj) => hide1 ((Below.refl w.heap.size w).alloc (Nat.le_refl _) o)
  unfold rw2
  by_cases h0 : i < 0
  · rw [bt_no (.inl h0)]
    go_enter Tryd.func49, Tryd.ntmps49
    go_wp2
    go_ret
    exact ⟨rfl, (hB _).out⟩
  · have h0' : decide (i < 0) = false := by rw [decide_eq_false_iff_not]; exact h0
    by_cases h1 : 128 ≤ i
    · rw [bt_no (.inr h1)]
      go_enter Tryd.func49, Tryd.ntmps49
      go_wp2
      go_ret
      exact ⟨rfl, (hB _).out⟩
    · have h1' : decide (128 ≤ i) = false := by rw [decide_eq_false_iff_not]; exact h1
      by_cases h2 : i < 64
      · obtain ⟨k, rfl⟩ := Int.eq_ofNat_of_zero_le (show 0 ≤ i by omega)
        have e1 : (k : Int) / 64 = 0 := by omega
        have e2 : (k : Int) % 64 = (k : Int) := by omega
        rw [bt_lo (by omega), ← shr_bit]
        go_enter Tryd.func49, Tryd.ntmps49
        go_wp2
        go_ret
        exact ⟨ret_bool (ret_and a k ha), (hB _).out⟩
      · obtain ⟨k, rfl⟩ : ∃ k : Nat, i = ((64 + k : Nat) : Int) := ⟨(i - 64).toNat, by omega⟩
        have hk : k < 64 := by omega
        obtain ⟨m, hm⟩ : ∃ m, m = 64 + k := ⟨_, rfl⟩
        rw [bt_hi hk, ← shr_bit, ← hm]
        have e1 : (m : Int) / 64 = 1 := by omega
        have e2 : (m : Int) % 64 = (k : Int) := by omega
        rw [← hm] at h0 h0' h1 h1' h2
        clear hm
        go_enter Tryd.func49, Tryd.ntmps49
        go_wp2
        go_ret
        exact ⟨ret_bool (ret_and b k hb), (hB _).out⟩

theorem rbit_any (a b : Nat) (i : Int) (w : World) :
    Calls Tryd.prog 54 #[rw2 a b, .int .i64 i] w fun e w' => e = .returned (.bool (bt a b i)) ∧ Below w.heap.size w w' := by
  have hB := fun (o : Obj) => hide1 ((Below.refl w.heap.size w).alloc (Nat.le_refl _) o)
  unfold rw2
  by_cases h0 : i < 0
  · rw [bt_no (.inl h0)]
    go_enter Tryd.func54, Tryd.ntmps54
    go_wp2
    go_ret
    exact ⟨rfl, (hB _).out⟩
  · have h0' : decide (i < 0) = false := by rw [decide_eq_false_iff_not]; exact h0
    by_cases h1 : 128 ≤ i
    · rw [bt_no (.inr h1)]
      go_enter Tryd.func54, Tryd.ntmps54
      go_wp2
      go_ret
      exact ⟨rfl, (hB _).out⟩
    · have h1' : decide (127 < i) = false := by rw [decide_eq_false_iff_not]; omega
      by_cases h2 : i < 64
      · obtain ⟨k, rfl⟩ := Int.eq_ofNat_of_zero_le (show 0 ≤ i by omega)
        have e1 : IntKind.u64.wrap (k : Int) = (k : Int) := by rw [IntKind.wrap_u64]; omega
        rw [bt_lo (by omega), ← shr_bit]
        go_enter Tryd.func54, Tryd.ntmps54
        go_wp2
        go_ret
        exact ⟨ret_bool (ret_mod a k), (hB _).out⟩
      · obtain ⟨k, rfl⟩ : ∃ k : Nat, i = ((64 + k : Nat) : Int) := ⟨(i - 64).toNat, by omega⟩
        have hk : k < 64 := by omega
        obtain ⟨m, hm⟩ : ∃ m, m = 64 + k := ⟨_, rfl⟩
        rw [bt_hi hk, ← shr_bit, ← hm]
        have e1 : (m : Int) - 64 = (k : Int) := by omega
        have e3 : IntKind.u64.wrap (k : Int) = (k : Int) := by rw [IntKind.wrap_u64]; omega
        have e4 : decide ((m : Int) < 64) = false := by rw [decide_eq_false_iff_not]; omega
        rw [← hm] at h0 h0' h1 h1' h2
        clear hm
        go_enter Tryd.func54, Tryd.ntmps54
        go_wp2
        go_ret
        exact ⟨ret_bool (ret_mod b k), (hB _).out⟩

theorem hi26 (a b : Nat) : (Tryd.prog.info? 24).map (·.size) = some (#[Value.int .u64 (a : Int), Value.int .u64 (b : Int)] : Array Value).size := by kernel_rfl
theorem other_any (a b c d : Nat) (w : World) (ha : a < 18446744073709551616) (hb : b < 18446744073709551616) (hc : c < 18446744073709551616) (hd : d < 18446744073709551616) :
    Calls Tryd.prog 34 #[rw2 a b, rw2 c d] w fun e w' => e = .returned (rw2 (a ^^^ c) (b ^^^ d)) ∧ Below w.heap.size w w' := by
  have e1 := u64_xor_nat a c ha hc
  have e2 := u64_xor_nat b d hb hd
  unfold rw2
  generalize a ^^^ c = x at *
  generalize b ^^^ d = y at *
  go_enter Tryd.func34, Tryd.ntmps34
  go_wp2
  refine ret_row Tryd.results34 (w.heap.size + 1 + 1) 24 #[.int .u64 (x : Int), .int .u64 (y : Int)] rfl ?_ Tryd.underlying24 (hi26 _ _) rfl ⟨rfl, ?_⟩
  · exact (three_at rfl).2.2.1
  · exact (three_at rfl).2.2.2.1
end Go.Proofs.YtlkkninnfiaedaaDoor

namespace Go.Proofs.YtlkkninnfiaedaaDoor.Pg
open Go.RowKit
set_option maxRecDepth 100000
attribute [local go_sem] not_any

theorem run_upto (s : ByteArray) (q : Nat) (h : q ≤ s.size) (w : World) : (Instr.slice 9 (.string s) none (some (.int .i64 (q : Int))) none).run Tryd.prog w = .ok (.string (s.extract 0 q)) w := by
  have := Tryd.underlying9
  go_simp

end Go.Proofs.YtlkkninnfiaedaaDoor.Pg
