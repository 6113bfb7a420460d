/- TreeEmpty's walk, over the project's own functions. Written by genWT.py. -/
import Derived.Test.YtfmidmhbnpincaaDoorLTEmpty
import Derived.Test.YtfmidmhbnpincaaDoorPjB
import Derived.Test.YtfmidmhbnpincaaDoorPjC
namespace Go.Proofs.YtfmidmhbnpincaaDoor
open Go.RowKit
theorem tempty_w (n0 : Int) (w : World) (h0 : (Lit.int .u8 n0).wf = true) (hR : Roots w) : Calls Tryd.prog 6 #[.int .u8 n0] w fun e w' => e = .returned (.bool true) ∧ Below w.heap.size w w' := by
  exact tempty_walk pEmpty_r pApp_r pRoot_r n0 w h0 hR
end Go.Proofs.YtfmidmhbnpincaaDoor
