/- sha.Words: the numbers of bytes. -/
import Derived.Test.YtimhophelecmjaaShaAll
import Derived.Test.YtimhophelecmjaaGenA
namespace Go.Proofs.Ytimhophelecmjaa
open Go.RowKit
/-- the words of bytes, as the model keeps them -/
def wordsV (l : List UInt8) (m : Nat) : List Value := (uarr m (wordL l)).toList
theorem made_u32 (m : Nat) : madeCells #[Value.int .u32 0] m = uarr m (fun _ => 0) := by
  apply Array.ext_getElem?
  intro i
  by_cases hi : i < m
  · rw [uarr_get _ _ _ hi, made_get _ _ _ hi]; rfl
  · simp [madeCells, uarr, hi]
theorem u32_info : (Try.prog.info? 22).map (fun i => (i.zero, i.size, i.bytes)) = some (some (.int .u32 0), 1, 4) := by kernel_rfl
end Go.Proofs.Ytimhophelecmjaa
