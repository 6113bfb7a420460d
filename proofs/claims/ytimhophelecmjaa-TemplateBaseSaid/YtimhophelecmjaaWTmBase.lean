/- TemplateBase's walk, for the closing. Written by genTmA.py. -/
import Derived.Test.YtimhophelecmjaaTmB
namespace Go.Proofs.Ytimhophelecmjaa
open Go.RowKit
theorem tmBase_w (n0 : Int) (s1 : List UInt8) (n2 : Int) (w : World) (h0 : (Lit.int .u32 n0).wf = true) (h1 : s1.length = 32) (h2 : (Lit.int .u32 n2).wf = true) : Calls Try.prog 3 #[.int .u32 n0, .agg (bytesA s1), .int .u32 n2] w fun e w' => e = .returned (.bool true) ∧ Below w.heap.size w w' := by
  rw [show bytesA s1 = (encK ⟨s1, h1⟩).toArray from (encK_arr ⟨s1, h1⟩).symm]
  exact tmBase_walk ⟨n0, h0⟩ ⟨s1, h1⟩ ⟨n2, h2⟩ w
end Go.Proofs.Ytimhophelecmjaa
