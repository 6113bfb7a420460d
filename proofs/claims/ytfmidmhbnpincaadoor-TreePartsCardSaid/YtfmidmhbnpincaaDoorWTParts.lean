/- TreeParts's walk, over the project's own functions. Written by genWT.py. -/
import Derived.Test.YtfmidmhbnpincaaDoorLTParts
import Derived.Test.YtfmidmhbnpincaaDoorPjG
import Derived.Test.YtfmidmhbnpincaaDoorPjB
import Derived.Test.YtfmidmhbnpincaaDoorTrTy
namespace Go.Proofs.YtfmidmhbnpincaaDoor
open Go.RowKit
theorem tparts_w (A0 : Option Addr) (c0 : Nat) (l0 : List K32) (s1 : List UInt8) (s2 : List UInt8) (w : World) (h0 : RowIn encK 32 w w.heap.size A0 c0 l0) (h1 : s1.length = 32) (h2 : s2.length = 32) (hR : Roots w) : Calls Tryd.prog 7 #[.slice A0 l0.length c0, .agg (bytesA s1), .agg (bytesA s2)] w fun e w' => e = .returned (.bool true) ∧ Below w.heap.size w w' := by
  rw [key_of s1 h1]
  rw [key_of s2 h2]
  exact tparts_walk pApp_r pOf_r A0 c0 l0 ⟨s1, h1⟩ ⟨s2, h2⟩ w h0 hR
end Go.Proofs.YtfmidmhbnpincaaDoor
