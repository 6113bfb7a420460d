/- The hash of two keys. -/
import Derived.Test.YtfmidmhbnpincaaDoorTreeA
import Derived.Test.YtfmidmhbnpincaaDoorRefAll
namespace Go.Proofs.YtfmidmhbnpincaaDoor
open Go.RowKit
theorem pairL_len (a b : List UInt8) : (pairL a b).length = 32 := by simp [pairL, dblL, sumL_len]
def pairK (a b : K32) : K32 := ⟨pairL a.1 b.1, pairL_len _ _⟩
theorem rPair_r (a b : K32) (w : World) :
    Calls Tryd.prog 22 #[.agg (encK a).toArray, .agg (encK b).toArray] w fun e w' => e = .returned (.agg (encK (pairK a b)).toArray) ∧ Below w.heap.size w w' := by
  rw [encK_arr, encK_arr, encK_arr]
  exact refPair_any a.1 b.1 a.2 b.2 w
end Go.Proofs.YtfmidmhbnpincaaDoor
