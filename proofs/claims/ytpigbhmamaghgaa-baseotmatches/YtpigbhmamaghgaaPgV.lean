/- The walk of ChachaGoesOn. -/
import Derived.Test.YtpigbhmamaghgaaPgU
namespace Go.Proofs.Ytpigbhmamaghgaa.Pg
open Go.RowKit
set_option maxRecDepth 100000
attribute [local go_sem] not_any

theorem nums_inj {a b : ByteArray} (h : nums a = nums b) : a = b := by
  obtain ⟨⟨la⟩⟩ := a
  obtain ⟨⟨lb⟩⟩ := b
  have h2 : la.map (fun b : UInt8 => b.toNat) = lb.map (fun b : UInt8 => b.toNat) := h
  have h3 : la = lb := by
    refine (List.map_inj_right ?_).1 h2
    intro x y hxy
    exact UInt8.toNat_inj.1 hxy
  rw [h3]
theorem txt_size {l : List Nat} (h : Lt 256 l) : (txt l).size = l.length := nums_size (nums_txt h)

end Go.Proofs.Ytpigbhmamaghgaa.Pg
