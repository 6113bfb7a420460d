/- Evicted transactions in a slice as a parameter. -/
import Derived.Test.YtiboelfakajohaaRcA
import Derived.Test.YtiboelfakajohaaRows
namespace Go.Proofs.Ytiboelfakajohaa
open Go.RowKit Go.ChangeShapes Go.WideShapes
section
variable {H : Type} {enc : TypeId × Value → H} {w : World} {base : Nat} {spare : Nat → Bool} {held : Bool}
set_option maxRecDepth 100000 in
theorem open_items {r : Reach} {b0 : Nat} {v : Value} {d : DataW H} {ps : List MemPlace} (hval : Value.okWide Try.prog w r b0 22 v) (hd : DataW.Trod enc Try.prog w base spare held 22 v d ps) :
    ∃ A c l, v = .slice A (l : List ItV).length c ∧ RowIn (encKI .u64) 33 w w.heap.size A c l := by
  have hs : Try.prog.underlying 40 = some (.struct #[(Try.prog.fieldsOf 40)[0]!, (Try.prog.fieldsOf 40)[1]!]) := by kernel_rfl
  obtain ⟨A, n, cap, rfl⟩ := okWide_slice Try.underlying22 hval
  obtain ⟨fuel, hf⟩ := hd
  have hf' : DataW.trod enc Try.prog w base spare held fuel 22 [.slice A n cap] = some (d, ps) := by simpa [Value.cells] using hf
  obtain ⟨A', c', l, h1, h2⟩ := trod_rows (encKI_len .u64) (by omega) Try.underlying22 (by kernel_rfl) (trod_KI (q := .u64) hs (by kernel_rfl) (by kernel_rfl) (by kernel_rfl) (by kernel_rfl) Try.underlying24 Try.underlying5 (by kernel_rfl) (by kernel_rfl) Try.underlying25 (by kernel_rfl) (by kernel_rfl)) hf'
  exact ⟨A', c', l, List.head_eq_of_cons_eq h1, h2⟩
end
end Go.Proofs.Ytiboelfakajohaa
