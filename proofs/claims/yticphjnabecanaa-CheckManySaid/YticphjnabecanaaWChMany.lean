/- CheckMany's walk, over the project's own functions. Written by genWCh.py. -/
import Derived.Test.YticphjnabecanaaLChMany
import Derived.Test.YticphjnabecanaaChkE
namespace Go.Proofs.Yticphjnabecanaa
open Go.RowKit
theorem chMany_w (a0 : TxA) (s1 : List UInt8) (b2 : Bool) (w : World) (h0 : a0.In w w.heap.size) (h1 : s1.length = 32) : Calls Try.prog 8 #[.agg a0.cells.toArray, .agg (bytesA s1), .bool b2] w fun e w' => e = .returned (.bool true) ∧ Below w.heap.size w w' := by
  rw [show bytesA s1 = (encK ⟨s1, h1⟩).toArray from (encK_arr ⟨s1, h1⟩).symm]
  exact chMany_walk pCheck_c pPoints_c a0 ⟨s1, h1⟩ b2 w h0
end Go.Proofs.Yticphjnabecanaa
