/- slices.Clone at keys, keys.Sort. -/
import Derived.Test.YtimhophelecmjaaKeyC
namespace Go.Proofs.Ytimhophelecmjaa
open Go.RowKit Go.Sort
theorem isAggK : ∀ w, (isAgg 24).run Try.prog w = .ok true w := tyK.agg
end Go.Proofs.Ytimhophelecmjaa
