/- TreeRoots's walk, over the project's own functions. Written by genWT.py. -/
import Derived.Test.YtfmidmhbnpincaaDoorLTRoots
import Derived.Test.YtfmidmhbnpincaaDoorPjG
import Derived.Test.YtfmidmhbnpincaaDoorPjB
import Derived.Test.YtfmidmhbnpincaaDoorPjC
namespace Go.Proofs.YtfmidmhbnpincaaDoor
open Go.RowKit
theorem troots_w (A0 : Option Addr) (c0 : Nat) (l0 : List K32) (w : World) (h0 : RowIn encK 32 w w.heap.size A0 c0 l0) (hR : Roots w) : Calls Tryd.prog 4 #[.slice A0 l0.length c0] w fun e w' => e = .returned (.bool true) ∧ Below w.heap.size w w' := by
  exact troots_walk pApp_r pOf_r pRoot_r A0 c0 l0 w h0 hR
end Go.Proofs.YtfmidmhbnpincaaDoor
