/- BlockDecodes' walk, over the project's own functions. -/
import Derived.Test.YthpnmmilioonhaaLBkDec
import Derived.Test.YthpnmmilioonhaaBkE
namespace Go.Proofs.Ythpnmmilioonhaa
open Go.RowKit
theorem bkdec_w (s : ByteArray) (w : World) (hs : s.size ≤ maxLen) : Calls Try.prog 3 #[.string s] w fun e w' => e = .returned (.bool true) ∧ Below w.heap.size w w' := bkdec_walk encB_ok decB_ok s w hs
end Go.Proofs.Ythpnmmilioonhaa
