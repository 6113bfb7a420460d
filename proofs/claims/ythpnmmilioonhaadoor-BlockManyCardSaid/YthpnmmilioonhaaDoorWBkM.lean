/- BlockMany's walk, over the project's own functions. -/
import Derived.Test.YthpnmmilioonhaaDoorLBkMany
import Derived.Test.YthpnmmilioonhaaDoorBkId
import Derived.Test.YthpnmmilioonhaaDoorBkE
namespace Go.Proofs.YthpnmmilioonhaaDoor
open Go.RowKit
theorem bkmany_w (n : Int) (s : List UInt8) (w : World) (hn : (Lit.int .u8 n).wf = true) (hs : s.length = 32) (hR : Roots w) : Calls Tryd.prog 4 #[.int .u8 n, .agg (bytesA s)] w fun e w' => e = .returned (.bool true) ∧ Below w.heap.size w w' := bkmany_all encB_ok idB_ok decB_ok n s w hn hs hR
end Go.Proofs.YthpnmmilioonhaaDoor
