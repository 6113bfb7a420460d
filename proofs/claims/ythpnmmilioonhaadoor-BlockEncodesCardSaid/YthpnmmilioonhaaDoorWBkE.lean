/- BlockEncodes' walk, over the project's own functions. -/
import Derived.Test.YthpnmmilioonhaaDoorLBkEnc
import Derived.Test.YthpnmmilioonhaaDoorBkId
import Derived.Test.YthpnmmilioonhaaDoorBkSi
namespace Go.Proofs.YthpnmmilioonhaaDoor
open Go.RowKit
theorem bkenc_w (a : BkA) (t : TxA) (w : World) (h : a.In w w.heap.size) (ht : t.In w w.heap.size) (hR : Roots w) : Calls Tryd.prog 3 #[.agg a.cells.toArray, .agg t.cells.toArray] w fun e w' => e = .returned (.bool true) ∧ Below w.heap.size w w' := bkenc_walk encB_ok idB_ok notesB_ok sigsB_ok sizeB_ok a t w h ht hR
end Go.Proofs.YthpnmmilioonhaaDoor
