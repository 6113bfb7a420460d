/- The shelf's contracts of slices.SortFunc, Clone, Index and sort.Search, laid at keys (made by genLay.py). -/
import Derived.Shelf.SlSortCmp.WholeK
import Derived.Shelf.SlSortCmp.NoneTotal
import Derived.Shelf.SlicesE.Clone
import Derived.Shelf.SlicesQ.Index
import Derived.Shelf.SlSorted.Search
import Derived.Test.YtiifamfophbbcaaProg
namespace Go.Proofs.Ytiifamfophbbcaa
open Go.Shelf Go.RowKit
def kClone_ren : Go.Shelf.Ren := ⟨fun | 41 => 21 | n => n,
  fun | 4 => 4 | 22 => 22 | 23 => 24 | n => n, fun n => n⟩
theorem kClone : SlLaysE0.n41 Try.prog kClone_ren := {
  mixed := by kernel_rfl
  f41 := ⟨Try.f21.name, by decide, Try.func21.trans (congrArg some (by kernel_rfl))⟩
  t4 := Try.underlying4
  a4 := Try.isAgg4
  z4 := Try.sizeOf4
  v4 := Try.zeroValue4
  t22 := Try.underlying22
  a22 := Try.isAgg22
  z22 := Try.sizeOf22
  v22 := Try.zeroValue22 }
end Go.Proofs.Ytiifamfophbbcaa
