/- The document's own order of two keys: the reference's Less. -/
import Derived.Test.YtimhophelecmjaaCellA
import Derived.Test.YtimhophelecmjaaGenA
namespace Go.Proofs.Ytimhophelecmjaa
open Go.RowKit Go.Sort
end Go.Proofs.Ytimhophelecmjaa
