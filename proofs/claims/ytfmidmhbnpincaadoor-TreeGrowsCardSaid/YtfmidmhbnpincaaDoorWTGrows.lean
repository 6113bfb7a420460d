/- TreeGrows's walk, over the project's own functions. Written by genWT.py. -/
import Derived.Test.YtfmidmhbnpincaaDoorLTGrows
import Derived.Test.YtfmidmhbnpincaaDoorPjG
import Derived.Test.YtfmidmhbnpincaaDoorPjE
namespace Go.Proofs.YtfmidmhbnpincaaDoor
open Go.RowKit
theorem tgrows_w (A0 : Option Addr) (c0 : Nat) (l0 : List K32) (n1 : Int) (w : World) (h0 : RowIn encK 32 w w.heap.size A0 c0 l0) (h1 : (Lit.int .u8 n1).wf = true) (hR : Roots w) : Calls Tryd.prog 5 #[.slice A0 l0.length c0, .int .u8 n1] w fun e w' => e = .returned (.bool true) ∧ Below w.heap.size w w' := by
  exact tgrows_walk pApp_r pOf_r pAll_r A0 c0 l0 n1 w h0 h1 hR
end Go.Proofs.YtfmidmhbnpincaaDoor
