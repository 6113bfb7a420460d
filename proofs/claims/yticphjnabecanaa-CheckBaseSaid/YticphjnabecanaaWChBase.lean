/- CheckBase's walk, over the project's own functions. Written by genWCh.py. -/
import Derived.Test.YticphjnabecanaaLChBase
import Derived.Test.YticphjnabecanaaChkE
namespace Go.Proofs.Yticphjnabecanaa
open Go.RowKit
theorem chBase_w (n0 : Int) (A1 : Option Addr) (c1 : Nat) (l1 : List (IntV .u32)) (s2 : List UInt8) (b3 : Bool) (w : World) (h0 : (Lit.int .u32 n0).wf = true) (h1 : RowIn (enc1 .u32) 1 w w.heap.size A1 c1 l1) (h2 : s2.length = 32) : Calls Try.prog 7 #[.int .u32 n0, .slice A1 l1.length c1, .agg (bytesA s2), .bool b3] w fun e w' => e = .returned (.bool true) ∧ Below w.heap.size w w' := by
  rw [show bytesA s2 = (encK ⟨s2, h2⟩).toArray from (encK_arr ⟨s2, h2⟩).symm]
  exact chBase_walk pCheck_c pPoints_c ⟨n0, h0⟩ A1 c1 l1 ⟨s2, h2⟩ b3 w h1
end Go.Proofs.Yticphjnabecanaa
