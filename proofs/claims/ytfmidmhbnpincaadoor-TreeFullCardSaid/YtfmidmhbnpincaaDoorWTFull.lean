/- TreeFull's walk, over the project's own functions. Written by genWT.py. -/
import Derived.Test.YtfmidmhbnpincaaDoorLTFull
import Derived.Test.YtfmidmhbnpincaaDoorPjE
import Derived.Test.YtfmidmhbnpincaaDoorTrTy
namespace Go.Proofs.YtfmidmhbnpincaaDoor
open Go.RowKit
theorem tfull_w (t0 : E3) (s1 : List UInt8) (w : World) (h1 : s1.length = 32) (hR : Roots w) : Calls Tryd.prog 8 #[.agg t0.cells.toArray, .agg (bytesA s1)] w fun e w' => e = .returned (.bool true) ∧ Below w.heap.size w w' := by
  rw [key_of s1 h1]
  exact tfull_walk pApp_r pAll_r t0 ⟨s1, h1⟩ w  hR
end Go.Proofs.YtfmidmhbnpincaaDoor
