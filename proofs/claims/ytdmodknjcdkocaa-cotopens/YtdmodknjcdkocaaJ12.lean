/- The document's Nonce. A seed made of a seed: Child, and the document's. Rows of 128 bits: Bit, Other, Times, and the document's Bit. The document's Stream. -/
import Derived.Test.YtdmodknjcdkocaaJ09
import Derived.Test.YtdmodknjcdkocaaJ11
import Derived.Test.YtdmodknjcdkocaaJ10
import Derived.Test.YtdmodknjcdkocaaJ02
namespace Go.Proofs.Ytdmodknjcdkocaa.Pg
open Go.RowKit
set_option maxRecDepth 100000
attribute [local go_sem] not_any

/- a number's first bytes -/
def lnT (x : Nat) : Nat → List Nat
  | 0 => []
  | k + 1 => lnT x k ++ [x / 256 ^ k % 256]
theorem lnT_length (x : Nat) : ∀ k, (lnT x k).length = k
  | 0 => rfl
  | k + 1 => by rw [lnT, List.length_append, lnT_length x k]; rfl
theorem lnT_nonce (x y : Nat) : lnT x 4 ++ lnT y 8 = nonceP x y := by
  show [x / 1 % 256, x / 256 % 256, x / 65536 % 256, x / 16777216 % 256, y / 1 % 256, y / 256 % 256, y / 65536 % 256, y / 16777216 % 256, y / 4294967296 % 256, y / 1099511627776 % 256, y / 281474976710656 % 256, y / 72057594037927936 % 256] =
    [x / 1 % 256, x / 256 % 256, x / 65536 % 256, x / 16777216 % 256, (y % 4294967296) / 1 % 256, (y % 4294967296) / 256 % 256, (y % 4294967296) / 65536 % 256, (y % 4294967296) / 16777216 % 256, (y / 4294967296 % 4294967296) / 1 % 256, (y / 4294967296 % 4294967296) / 256 % 256, (y / 4294967296 % 4294967296) / 65536 % 256, (y / 4294967296 % 4294967296) / 16777216 % 256]
  congr 4
  congr 1
  · omega
  congr 1
  · omega
  congr 1
  · omega
  congr 1
  · omega
  congr 1
  · omega
  congr 1
  · omega
  congr 1
  · omega
  congr 1
  omega

set_option maxHeartbeats 4000000 in
theorem rnonce_any (x y : Nat) (w : World) (hx : x < 4294967296) (hy : y < 18446744073709551616) :
    Calls Try.prog 57 #[.int .u32 (x : Int), .int .u64 (y : Int)] w fun e w' => e = .returned (.string (txt (nonceP x y))) ∧ Below w.heap.size w w' := by
  obtain ⟨i5, hi, hz0, hz1, hz2⟩ := info_of info5
  have HP : Shy (lnT x 4 ++ lnT y 8 = nonceP x y) := ⟨lnT_nonce x y⟩
  have HX := hide1 hx
  have HY := hide1 hy
  clear hx hy
  go_enter Try.func57, Try.ntmps57
  go_wp2
  go_loopw [0, 5, 6] (fun v0 v5 v6 wr => ∃ k d : Nat, k ≤ 4 ∧ v6 = .int .i64 k ∧ Shy (d = x / 256 ^ k) ∧ v0 = .int .u32 (d : Int) ∧ (∃ a c, v5 = .slice a k c) ∧ wr.ownsRow w.heap.size 5 1 v5 k (u8s (lnT x k)) ∧ Below w.heap.size w wr) (fun _ _ v6 _ => 4 - (intOf v6).toNat)
  case atStart => exact ⟨0, x, Nat.zero_le _, rfl, ⟨by simp⟩, rfl, ⟨none, 0, rfl⟩, World.ownsRow_nil _ _ _ _, Below.refl _ _⟩
  case round =>
    obtain ⟨k, d, hk, rfl, hd, rfl, ⟨a5, c5, rfl⟩, hro, hbe⟩ := hrel
    by_cases hlt : k < 4
    · have hki : (k : Int) < 4 := by omega
      have hdl : d < 4294967296 := by rw [hd.out]; exact Nat.lt_of_le_of_lt (Nat.div_le_self _ _) HX.out
      obtain ⟨b, hb⟩ : ∃ b, b = d % 256 := ⟨_, rfl⟩
      obtain ⟨d', hd'⟩ : ∃ v, v = d / 256 := ⟨_, rfl⟩
      have e1 : IntKind.u8.wrap (d : Int) = (b : Int) := by rw [IntKind.wrap_u8]; omega
      have e2 : (d : Int) / 256 = (d' : Int) := by omega
      have HD : Shy (d' = x / 256 ^ (k + 1)) := ⟨by rw [hd', hd.out, Nat.div_div_eq_div_mul, Nat.pow_succ]⟩
      have HS : Shy (lnT x (k + 1) = lnT x k ++ [b]) := ⟨by rw [lnT, hb, hd.out]⟩
      have bd : (d' : Int) < 4294967296 := by omega
      have HRO := hide1 hro
      have HE := hide1 hbe
      clear hro hbe hb hd' hd hdl
      go_wp2_with (first
        | (at_builtin; go_must (refine wpList_append_lies _ rfl (.tmp 12) (.tmp 15) 88 rfl w.heap.size 5 i5 (.int .u8 0) 1 1 Try.underlying88 hi hz0 hz1 hz2 rfl (by decide) (.slice a5 k c5) k (u8s (lnT x k)) rfl (HRO.out.alloc _) ⟨wr.heap.size, 0, none⟩ 1 1 (u8s [b]) rfl rfl (World.news_of_block (heap_alloc_new wr (row8 5 [b]))) (u8s_one _) (by omega) (by unfold maxLen; omega) (by omega) (by have := HE.out.size; rw [size_alloc]; omega) _ rfl ?_; intro g8 cap8 w8 ro8 gr8 wh8 lt8))
        | fail)
      rw [show u8s (lnT x k) ++ u8s [b] = u8s (lnT x (k + 1)) by rw [HS.out]; simp [u8s]] at ro8
      have hb8 : Below w.heap.size w w8 := (HE.out.alloc HE.out.size _).grown gr8 (by rw [size_alloc]; have := HE.out.size; omega) (fun k hk => (HRO.out.lt k hk).1)
      have RO8 := hide1 ro8
      have HB8 := hide1 hb8
      clear ro8 hb8 gr8 wh8 lt8
      go_wp2
      go_roundw
      case rel => exact ⟨k + 1, d', by omega, by go_num, HD, by first | rfl | trivial, ⟨_, _, rfl⟩, RO8.out, HB8.out⟩
      case measure => simp [intOf]; omega
    · have : k = 4 := by omega
      subst this
      have HRO := hide1 hro
      have HE := hide1 hbe
      clear hro hbe hd hlt hk
      obtain ⟨Z, hZ⟩ : ∃ Z, Z = wr := ⟨_, rfl⟩
      subst hZ
      rw [show ((4 : Nat) : Int) = 4 from rfl]
      go_wp2
      go_loopw [1, 5, 7] (fun v1 v5 v7 wr => ∃ k n d : Nat, k ≤ 8 ∧ n = 4 + k ∧ v7 = .int .i64 k ∧ Shy (d = y / 256 ^ k) ∧ v1 = .int .u64 (d : Int) ∧ (∃ a c, v5 = .slice a n c) ∧ wr.ownsRow w.heap.size 5 1 v5 n (u8s (lnT x 4 ++ lnT y k)) ∧ Below w.heap.size w wr) (fun _ _ v7 _ => 8 - (intOf v7).toNat)
      case atStart => exact ⟨0, 4, y, Nat.zero_le _, rfl, rfl, ⟨by simp⟩, rfl, ⟨_, _, rfl⟩, by rw [lnT, List.append_nil]; exact HRO.out, HE.out⟩
      case round =>
        obtain ⟨k, n, d, hk, hn, rfl, hd, rfl, ⟨a6, c6, rfl⟩, hro, hbe⟩ := hrel
        by_cases hlt : k < 8
        · have hki : (k : Int) < 8 := by omega
          have hdl : d < 18446744073709551616 := by rw [hd.out]; exact Nat.lt_of_le_of_lt (Nat.div_le_self _ _) HY.out
          obtain ⟨b, hb⟩ : ∃ b, b = d % 256 := ⟨_, rfl⟩
          obtain ⟨d', hd'⟩ : ∃ v, v = d / 256 := ⟨_, rfl⟩
          have e1 : IntKind.u8.wrap (d : Int) = (b : Int) := by rw [IntKind.wrap_u8]; omega
          have e2 : (d : Int) / 256 = (d' : Int) := by omega
          have HD : Shy (d' = y / 256 ^ (k + 1)) := ⟨by rw [hd', hd.out, Nat.div_div_eq_div_mul, Nat.pow_succ]⟩
          have HS : Shy (lnT y (k + 1) = lnT y k ++ [b]) := ⟨by rw [lnT, hb, hd.out]⟩
          have bd : (d' : Int) < 18446744073709551616 := by omega
          have HRO := hide1 hro
          have HE := hide1 hbe
          have Hn : Shy (n = 4 + k) := ⟨hn⟩
          have hn12 : n ≤ 12 := by omega
          clear hro hbe hb hd' hd hdl hn
          go_wp2_with (first
            | (at_builtin; go_must (refine wpList_append_lies _ rfl (.tmp 23) (.tmp 26) 88 rfl w.heap.size 5 i5 (.int .u8 0) 1 1 Try.underlying88 hi hz0 hz1 hz2 rfl (by decide) (.slice a6 n c6) n (u8s (lnT x 4 ++ lnT y k)) rfl (HRO.out.alloc _) ⟨wr.heap.size, 0, none⟩ 1 1 (u8s [b]) rfl rfl (World.news_of_block (heap_alloc_new wr (row8 5 [b]))) (u8s_one _) (by omega) (by unfold maxLen; omega) (by omega) (by have := HE.out.size; rw [size_alloc]; omega) _ rfl ?_; intro g8 cap8 w8 ro8 gr8 wh8 lt8))
            | fail)
          rw [show u8s (lnT x 4 ++ lnT y k) ++ u8s [b] = u8s (lnT x 4 ++ lnT y (k + 1)) by rw [HS.out]; simp [u8s]] at ro8
          have hb8 : Below w.heap.size w w8 := (HE.out.alloc HE.out.size _).grown gr8 (by rw [size_alloc]; have := HE.out.size; omega) (fun k hk => (HRO.out.lt k hk).1)
          have RO8 := hide1 ro8
          have HB8 := hide1 hb8
          clear ro8 hb8 gr8 wh8 lt8
          go_wp2
          go_roundw
          case rel => exact ⟨k + 1, n + 1, d', by omega, by have := Hn.out; omega, by go_num, HD, by first | rfl | trivial, ⟨_, _, rfl⟩, RO8.out, HB8.out⟩
          case measure => simp [intOf]; omega
        · have : k = 8 := by omega
          subst this
          obtain rfl : n = 12 := by omega
          rw [HP.out] at hro
          rcases hro.2 with ⟨_, h0⟩ | ⟨g9, cap9, cur9, hv9, _⟩
          · omega
          · cases hv9
            have hcv2 := conv_own (nonceP_length x y) hro
            obtain ⟨ty, hty⟩ : ∃ ty, ty = txt (nonceP x y) := ⟨_, rfl⟩
            rw [← hty] at hcv2
            have HTY : Shy (ty = txt (nonceP x y)) := ⟨hty⟩
            have HBF := hide1 hbe
            clear hro hty hbe hn hd
            rw [show ((8 : Nat) : Int) = 8 from rfl]
            go_wp2
            go_ret
            exact ⟨by rw [← HTY.out]; rfl, HBF.out⟩
end Go.Proofs.Ytdmodknjcdkocaa.Pg

namespace Go.Proofs.Ytdmodknjcdkocaa.Pg
open Go.RowKit
set_option maxRecDepth 100000
attribute [local go_sem] not_any

theorem text_cells (s : ByteArray) (n : Nat) : ((s.extract 0 n).data.map fun b => Value.int .u8 b.toNat) = (u8s ((nums s).take n)).toArray := by
  have e := nums_extract s 0 n
  rw [List.drop_zero, Nat.sub_zero] at e
  rw [← e]
  apply Array.ext'
  simp [u8s, nums]
  rfl

/- bytes copied out of a text -/
theorem run_copy_text {w : World} (g off dLen dCap : Nat) (str : ByteArray) (cur : List Value) (t : TypeId) (hg : w.heap[g]? = some (.cells cur.toArray t (0, 0))) (n : Nat) (hn : n = min str.size dLen) (hf : off + n ≤ cur.length) :
    (Builtin.copy_ #[88, 9] 3 #[.slice (some ⟨g, off, none⟩) dLen dCap, .string str]).run Try.prog w = .ok (.int .i64 (n : Int)) (w.setRow g (splice cur off (u8s ((nums str).take n))).toArray) := by
  have hu := Try.underlying88
  have hsz := size5
  have hl : (u8s ((nums str).take n)).length = n := by rw [u8s_length, List.length_take, nums_length]; omega
  have hst := run_storeCells_at Try.prog g off t (u8s ((nums str).take n)) 0 cur.toArray w hg (by rw [hl]; simpa using hf) (u8s_one _)
  have hn' : Nat.min str.size dLen = n := hn.symm
  have hc := text_cells str n
  cases hq : Try.prog.info? 5 with
  | none => simp [hq] at hsz
  | some i =>
    have hi : i.size = 1 := by simpa [hq] using hsz
    simp only [Nat.add_zero] at hst
    have hfc : (Builtin.firstCells 1 n (.string str)).run Try.prog w = .ok (u8s ((nums str).take n)).toArray w := by
      simp only [Builtin.firstCells]
      rw [hc]
      rfl
    simp [Builtin.copy_, run_underlying hu, Builtin.lenOf, hfc, sizeOf, typeInfo, hq, hi, hn', hst, splice, goInt]

def childP (kl : List Nat) (y : Nat) : List Nat := (blockP kl (nonceP 4294967295 y) 0).take 32
theorem childP_length (kl : List Nat) (y : Nat) : (childP kl y).length = 32 := by rw [childP, List.length_take, blockP_length]; rfl

theorem three_at {w X : World} {A B C : Obj} (h : ((w.alloc A).alloc B).alloc C = X) : X.heap[w.heap.size]? = some A ∧ X.heap[w.heap.size + 1]? = some B ∧ X.heap[w.heap.size + 2]? = some C ∧ Below w.heap.size w X ∧ w.heap.size + 3 ≤ X.heap.size := by
  subst h
  refine ⟨by rw [heap_alloc_old _ _ (by simp; omega), heap_alloc2_old], by rw [heap_alloc_old _ _ (by simp), heap_alloc2_new], by have := heap_alloc_new ((w.alloc A).alloc B) C; simpa using this, ?_, by simp⟩
  exact (((Below.refl _ _).alloc (Nat.le_refl _) _).alloc (by simp) _).alloc (by simp; omega) _

end Go.Proofs.Ytdmodknjcdkocaa.Pg

namespace Go.Proofs.Ytdmodknjcdkocaa
open Go.RowKit Pg
set_option maxRecDepth 100000
attribute [local go_sem] not_any

/- a row, as a value -/
def rw2 (a b : Nat) : Value := .agg #[.int .u64 (a : Int), .int .u64 (b : Int)]
/- a row's bit -/
def bt (a b : Nat) (i : Int) : Bool := if 0 ≤ i ∧ i < 128 then (if i < 64 then a.testBit i.toNat else b.testBit (i.toNat - 64)) else false
theorem bt_no {a b : Nat} {i : Int} (h : i < 0 ∨ 128 ≤ i) : bt a b i = false := if_neg (by omega)
theorem bt_lo {a b k : Nat} (h : k < 64) : bt a b (k : Int) = a.testBit k := by
  rw [bt, if_pos (by omega), if_pos (by omega), Int.toNat_natCast]
theorem bt_hi {a b k : Nat} (h : k < 64) : bt a b ((64 + k : Nat) : Int) = b.testBit k := by
  rw [bt, if_pos (by omega), if_neg (by omega), Int.toNat_natCast, Nat.add_sub_cancel_left]

theorem shr_bit (a k : Nat) : (a / 2 ^ k % 2 == 1) = a.testBit k := by
  rw [Nat.testBit_eq_decide_div_mod_eq]
  rfl
theorem lt_pow {a k : Nat} (h : a < 18446744073709551616) : a / 2 ^ k < 18446744073709551616 := Nat.lt_of_le_of_lt (Nat.div_le_self _ _) h

theorem ret_and (a k : Nat) (h : a < 18446744073709551616) : (bits .and .u64 ((a : Int) / 2 ^ k) 1 == 1) = (a / 2 ^ k % 2 == 1) := by
  have e : (a : Int) / 2 ^ k = ((a / 2 ^ k : Nat) : Int) := by rw [Int.natCast_ediv, Int.natCast_pow]; rfl
  have hl := lt_pow (k := k) h
  rw [e]
  generalize a / 2 ^ k = q at *
  rw [and_one_u64 _ (by omega) (by omega), show (q : Int) % 2 = ((q % 2 : Nat) : Int) by omega]
  generalize q % 2 = z
  rw [Bool.eq_iff_iff, beq_iff_eq, beq_iff_eq]
  omega
theorem ret_mod (a k : Nat) : ((a : Int) / 2 ^ k % 2 == 1) = (a / 2 ^ k % 2 == 1) := by
  have e : (a : Int) / 2 ^ k = ((a / 2 ^ k : Nat) : Int) := by rw [Int.natCast_ediv, Int.natCast_pow]; rfl
  rw [e]
  generalize a / 2 ^ k = q
  rw [show (q : Int) % 2 = ((q % 2 : Nat) : Int) by omega]
  generalize q % 2 = z
  rw [Bool.eq_iff_iff, beq_iff_eq, beq_iff_eq]
  omega
theorem ret_bool {x y : Bool} (h : x = y) : Ending.returned (.bool x) = .returned (.bool y) := by rw [h]

end Go.Proofs.Ytdmodknjcdkocaa

namespace Go.Proofs.Ytdmodknjcdkocaa.Pg
open Go.RowKit
set_option maxRecDepth 100000
attribute [local go_sem] not_any

theorem run_upto (s : ByteArray) (q : Nat) (h : q ≤ s.size) (w : World) : (Instr.slice 9 (.string s) none (some (.int .i64 (q : Int))) none).run Try.prog w = .ok (.string (s.extract 0 q)) w := by
  have := Try.underlying9
  go_simp

end Go.Proofs.Ytdmodknjcdkocaa.Pg
