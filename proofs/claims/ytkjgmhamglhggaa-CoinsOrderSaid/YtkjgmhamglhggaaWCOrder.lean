/- CoinsOrder's walk, over the project's own functions. Written by genWC.py. -/
import Derived.Test.YtkjgmhamglhggaaLCoOrd
import Derived.Test.YtkjgmhamglhggaaCoPF
import Derived.Test.YtkjgmhamglhggaaCoPY
import Derived.Test.YtkjgmhamglhggaaCoPZ
namespace Go.Proofs.Ytkjgmhamglhggaa
open Go.RowKit
theorem cord_w (p0 : K32 × IntV .u32) (p1 : K32 × IntV .u32) (p2 : K32 × IntV .u32) (w : World)  : Calls Try.prog 7 #[.agg (encKI .u32 p0).toArray, .agg (encKI .u32 p1).toArray, .agg (encKI .u32 p2).toArray] w fun e w' => e = .returned (.bool true) ∧ Below w.heap.size w w' := by
  exact cord_walk pLess_c pApply_c p0 p1 p2 w
end Go.Proofs.Ytkjgmhamglhggaa
