/- TreeTells's walk, over the project's own functions. Written by genWT.py. -/
import Derived.Test.YtfmidmhbnpincaaDoorLTTells
import Derived.Test.YtfmidmhbnpincaaDoorPjA
import Derived.Test.YtfmidmhbnpincaaDoorPjG
import Derived.Test.YtfmidmhbnpincaaDoorPjE
import Derived.Test.YtfmidmhbnpincaaDoorPjC
import Derived.Test.YtfmidmhbnpincaaDoorTrTy
namespace Go.Proofs.YtfmidmhbnpincaaDoor
open Go.RowKit
theorem ttells_w (t0 : TrV) (A1 : Option Addr) (c1 : Nat) (l1 : List K32) (w : World) (h1 : RowIn encK 32 w w.heap.size A1 c1 l1) (hR : Roots w) : Calls Tryd.prog 3 #[.agg t0.cells.toArray, .slice A1 l1.length c1] w fun e w' => e = .returned (.bool true) ∧ Below w.heap.size w w' := by
  exact ttells_walk pEmpty_r pApp_r pAll_r pRoot_r t0 A1 c1 l1 w h1 hR
end Go.Proofs.YtfmidmhbnpincaaDoor
