/- keys.Meet. -/
import Derived.Test.YtimhophelecmjaaKeyL
import Derived.Test.YtimhophelecmjaaGenA
namespace Go.Proofs.Ytimhophelecmjaa
open Go.RowKit Go.Sort
def meetF (a b : List K32) : Bool := b.any fun k => decide (k ∈ a)
end Go.Proofs.Ytimhophelecmjaa
