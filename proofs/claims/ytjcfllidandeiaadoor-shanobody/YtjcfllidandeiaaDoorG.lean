/- A block's words: word, gather; a word's bytes: bytesOf. -/
import Derived.Test.YtjcfllidandeiaaDoorR
import Derived.Laws.CopyOwn
import Derived.Deep.RegionHeld3
import Derived.Deep.Cut
import Derived.Deep.CutBlock
import Derived.Deep.DeepCutAuto
import Derived.Lib.EndianBits
namespace Go.Proofs.YtjcfllidandeiaaDoor
open Go.RowKit
set_option maxRecDepth 100000
attribute [local go_sem] not_any

/- four bytes as a word, the highest first -/
def be (a b c d : Nat) : Nat := a * 16777216 + b * 65536 + c * 256 + d
def wordAt (l : List Nat) (i : Nat) : Nat := be (at0 l i) (at0 l (i + 1)) (at0 l (i + 2)) (at0 l (i + 3))
def wordsOf (l : List Nat) : List Nat := (List.range 16).map (fun i => wordAt l (4 * i))

theorem be_lt {a b c d : Nat} (ha : a < 256) (hb : b < 256) (hc : c < 256) (hd : d < 256) : be a b c d < 4294967296 := by unfold be; omega
theorem wordsOf_length (l : List Nat) : (wordsOf l).length = 16 := by simp [wordsOf]
theorem wordsOf_lt {l : List Nat} (h : Lt 256 l) : Lt 4294967296 (wordsOf l) := by
  intro x hx
  simp only [wordsOf, List.mem_map] at hx
  obtain ⟨i, _, rfl⟩ := hx
  exact be_lt (h.at (by omega) _) (h.at (by omega) _) (h.at (by omega) _) (h.at (by omega) _)

/- bytes in memory, to be read -/
structure By (w : World) (m : Nat) (a : Option Addr) (l : List Nat) : Prop where
  len : l.length = m
  at' : ∀ j, j < m → ∃ g o, a = some ⟨g, o, none⟩ ∧ w.cell? ⟨g, o + j, none⟩ = some (.int .u8 (at0 l j : Nat))

theorem or4 {x0 x1 x2 x3 : Nat} (h0 : x0 < 256) (h1 : x1 < 256) (h2 : x2 < 256) (h3 : x3 < 256) :
    bits .or .u32 (bits .or .u32 (bits .or .u32 (bits .or .u32 0 (x3 : Int)) ((x2 : Int) * 256)) ((x1 : Int) * 65536)) ((x0 : Int) * 16777216) = (be x0 x1 x2 x3 : Nat) := by
  have e : bits .or .u32 0 (x3 : Int) = (x3 : Int) := by
    have := u32_or_nat 0 x3 (by omega) (by omega)
    rw [Nat.zero_or] at this
    exact this
  rw [e, u32_or8 (x3 : Int) ((x2 : Int) * 256) (by omega) (by omega) (by omega) (by omega) (by omega), u32_or16 ((x3 : Int) + (x2 : Int) * 256) ((x1 : Int) * 65536) (by omega) (by omega) (by omega) (by omega) (by omega), u32_or24 ((x3 : Int) + (x2 : Int) * 256 + (x1 : Int) * 65536) ((x0 : Int) * 16777216) (by omega) (by omega) (by omega) (by omega) (by omega)]
  unfold be
  omega
theorem or3 {x0 x1 x2 : Nat} (h0 : x0 < 256) (h1 : x1 < 256) (h2 : x2 < 256) :
    bits .or .u32 (bits .or .u32 (bits .or .u32 0 ((x2 : Int) * 256)) ((x1 : Int) * 65536)) ((x0 : Int) * 16777216) = (be x0 x1 x2 0 : Nat) := by
  rw [u32_or8 0 ((x2 : Int) * 256) (by omega) (by omega) (by omega) (by omega) (by omega), u32_or16 (0 + (x2 : Int) * 256) ((x1 : Int) * 65536) (by omega) (by omega) (by omega) (by omega) (by omega), u32_or24 (0 + (x2 : Int) * 256 + (x1 : Int) * 65536) ((x0 : Int) * 16777216) (by omega) (by omega) (by omega) (by omega) (by omega)]
  unfold be
  omega
theorem or2 {x0 x1 : Nat} (h0 : x0 < 256) (h1 : x1 < 256) :
    bits .or .u32 (bits .or .u32 0 ((x1 : Int) * 65536)) ((x0 : Int) * 16777216) = (be x0 x1 0 0 : Nat) := by
  rw [u32_or16 0 ((x1 : Int) * 65536) (by omega) (by omega) (by omega) (by omega) (by omega), u32_or24 (0 + (x1 : Int) * 65536) ((x0 : Int) * 16777216) (by omega) (by omega) (by omega) (by omega) (by omega)]
  unfold be
  omega
theorem or1 {x0 : Nat} (h0 : x0 < 256) : bits .or .u32 0 ((x0 : Int) * 16777216) = (be x0 0 0 0 : Nat) := by
  rw [u32_or24 _ _ (by omega) (by omega) (by omega) (by omega) (by omega)]
  unfold be
  omega

theorem By.three {w : World} {m : Nat} {a : Option Addr} {l : List Nat} (h : By w m a l) (h1 : 1 ≤ m) : ∃ g o, a = some ⟨g, o, none⟩ ∧ w.cell? ⟨g, o, none⟩ = some (.int .u8 (at0 l 0 : Nat)) ∧ ∀ j, j < m → w.cell? ⟨g, o + j, none⟩ = some (.int .u8 (at0 l j : Nat)) := by
  obtain ⟨g, o, rfl, c⟩ := h.at' 0 (by omega)
  refine ⟨g, o, rfl, c, fun j hj => ?_⟩
  obtain ⟨g', o', e, c'⟩ := h.at' j hj
  cases e
  exact c'

set_option maxHeartbeats 1000000 in
theorem word_any (l : List Nat) (m c : Nat) (a : Option Addr) (w : World) (hm : m ≤ 64) (h : By w m a l) (hl : Lt 256 l) :
    Calls Tryd.prog 32 #[.slice a m c] w fun e w' => e = .returned (.int .u32 (wordAt l 0 : Nat)) ∧ w' = w := by
  have b0 := hl.at (by omega) 0
  have b1 := hl.at (by omega) 1
  have b2 := hl.at (by omega) 2
  have b3 := hl.at (by omega) 3
  have z : ∀ i, m ≤ i → at0 l i = 0 := fun i hi => at0_none (by rw [h.len]; exact hi)
  have Hw : Hid (wordAt l 0 = be (at0 l 0) (at0 l 1) (at0 l 2) (at0 l 3)) := rfl
  by_cases h0 : m = 0
  · subst h0
    rw [z 0 (by omega), z 1 (by omega), z 2 (by omega), z 3 (by omega)] at Hw
    rw [Hw.out]
    clear Hw z b0 b1 b2 b3 h hl
    go_enter Tryd.func32, Tryd.ntmps32
    go_wp2
    go_ret
    exact ⟨rfl, rfl⟩
  obtain ⟨g, o, rfl, c0, cs⟩ := h.three (by omega)
  by_cases h1 : m = 1
  · subst h1
    rw [z 1 (by omega), z 2 (by omega), z 3 (by omega)] at Hw
    generalize at0 l 0 = x0 at *
    rw [Hw.out]
    clear Hw z b1 b2 b3 h hl cs
    go_enter Tryd.func32, Tryd.ntmps32
    go_wp2
    go_ret
    exact ⟨ret_int (or1 b0), rfl⟩
  have c1 := cs 1 (by omega)
  by_cases h2 : m = 2
  · subst h2
    rw [z 2 (by omega), z 3 (by omega)] at Hw
    generalize at0 l 0 = x0 at *
    generalize at0 l 1 = x1 at *
    rw [Hw.out]
    clear Hw z b2 b3 h hl cs
    go_enter Tryd.func32, Tryd.ntmps32
    go_wp2
    go_ret
    exact ⟨ret_int (or2 b0 b1), rfl⟩
  have c2 := cs 2 (by omega)
  by_cases h3 : m = 3
  · subst h3
    rw [z 3 (by omega)] at Hw
    generalize at0 l 0 = x0 at *
    generalize at0 l 1 = x1 at *
    generalize at0 l 2 = x2 at *
    rw [Hw.out]
    clear Hw z b3 h hl cs
    go_enter Tryd.func32, Tryd.ntmps32
    go_wp2
    go_ret
    exact ⟨ret_int (or3 b0 b1 b2), rfl⟩
  have c3 := cs 3 (by omega)
  by_cases h4 : m = 4
  · subst h4
    generalize at0 l 0 = x0 at *
    generalize at0 l 1 = x1 at *
    generalize at0 l 2 = x2 at *
    generalize at0 l 3 = x3 at *
    rw [Hw.out]
    clear Hw z h hl cs
    go_enter Tryd.func32, Tryd.ntmps32
    go_wp2
    go_ret
    exact ⟨ret_int (or4 b0 b1 b2 b3), rfl⟩
  have h5 : ¬ (m : Int) ≤ 4 := by omega
  generalize at0 l 0 = x0 at *
  generalize at0 l 1 = x1 at *
  generalize at0 l 2 = x2 at *
  generalize at0 l 3 = x3 at *
  rw [Hw.out]
  clear Hw z h hl cs
  go_enter Tryd.func32, Tryd.ntmps32
  go_wp2
  go_ret
  exact ⟨ret_int (or4 b0 b1 b2 b3), rfl⟩

def bytesP (x : Nat) : List Nat := [x / 16777216 % 256, x / 65536 % 256, x / 256 % 256, x % 256]

theorem bytes_lit {x : Nat} (hx : x < 4294967296) : #[Value.int IntKind.u8 ((x : Int) / 16777216), Value.int IntKind.u8 ((x : Int) / 65536 % 256), Value.int IntKind.u8 ((x : Int) / 256 % 256), Value.int IntKind.u8 ((x : Int) % 256)] = (u8s (bytesP x)).toArray := by
  have e : (x : Int) / 16777216 = ((x / 16777216 % 256 : Nat) : Int) := by omega
  rw [e]
  rfl

theorem bytes_any (x : Nat) (w : World) (hx : x < 4294967296) :
    Calls Tryd.prog 33 #[.int .u32 (x : Int)] w fun e w' => e = .returned (arr8 (bytesP x)) ∧ Below w.heap.size w w' := by
  go_enter Tryd.func33, Tryd.ntmps33
  go_wp2
  rw [bytes_lit hx]
  refine ret_row Tryd.results33 w.heap.size 64 (u8s (bytesP x)).toArray rfl (heap_alloc_new _ _) Tryd.underlying64 (by kernel_rfl) rfl ⟨rfl, ?_⟩
  exact (Below.refl _ _).alloc (Nat.le_refl _) _

end Go.Proofs.YtjcfllidandeiaaDoor
