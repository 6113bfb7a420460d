/- CostRight's walk, over the project's own functions. Written by genWCo14.py. -/
import Derived.Test.YtpoejbfcioijhaaLCoRi
import Derived.Test.YtpoejbfcioijhaaCosQ
namespace Go.Proofs.Ytpoejbfcioijhaa
open Go.RowKit
theorem cosRight_w (n0 : Int) (n1 : Int) (n2 : Int) (w : World) (h0 : (Lit.int .i64 n0).wf = true) (h1 : (Lit.int .u16 n1).wf = true) (h2 : (Lit.int .u64 n2).wf = true) : Calls Try.prog 6 #[.int .i64 n0, .int .u16 n1, .int .u64 n2] w fun e w' => e = .returned (.bool true) ∧ Below w.heap.size w w' := by
  exact cosRight_walk pSum_c pPick_c pCost_c ⟨n0, h0⟩ ⟨n1, h1⟩ ⟨n2, h2⟩ w
end Go.Proofs.Ytpoejbfcioijhaa
