/- The document's own order of two keys: the reference's Less. -/
import Derived.Test.YticphjnabecanaaCellA
import Derived.Test.YticphjnabecanaaGenA
namespace Go.Proofs.Yticphjnabecanaa
open Go.RowKit Go.Sort
end Go.Proofs.Yticphjnabecanaa
