/- The statements' shown(). -/
import Derived.Test.YtimhophelecmjaaKeyT
import Derived.Test.YtimhophelecmjaaGenA
namespace Go.Proofs.Ytimhophelecmjaa
open Go.RowKit Go.Sort
def keyN (n : UInt8) : K32 := ⟨n :: List.replicate 31 0, by simp⟩
theorem built2 : Try.prog.built 24 [(0, .int .u8 2)] = some (bytesA (keyN 2).1) := by kernel_rfl
theorem built1 : Try.prog.built 24 [(0, .int .u8 1)] = some (bytesA (keyN 1).1) := by kernel_rfl
theorem sort21 : sortK [keyN 2, keyN 1] = [keyN 1, keyN 2] := by decide
theorem less12 : ltK (keyN 1) (keyN 2) = true := by decide
theorem zeroK : ((Try.prog.info? 24).bind (·.zero)).isSome = true := by kernel_rfl
theorem valK (x : K32) : Value.agg (bytesA x.1) = .agg (encK x).toArray := by rw [encK_arr]
end Go.Proofs.Ytimhophelecmjaa
