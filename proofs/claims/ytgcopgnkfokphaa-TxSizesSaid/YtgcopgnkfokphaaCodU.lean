/- The document's own answers for codec: the bytes of a key. -/
import Derived.Test.YtgcopgnkfokphaaConv
import Derived.Test.YtgcopgnkfokphaaBytes
namespace Go.Proofs.Ytgcopgnkfokphaa
open Go.RowKit
theorem byte_info5 : (Try.prog.info? 5).map (fun i => (i.zero, i.size, i.bytes)) = some (some (.int .u8 0), 1, 1) := by kernel_rfl
end Go.Proofs.Ytgcopgnkfokphaa
