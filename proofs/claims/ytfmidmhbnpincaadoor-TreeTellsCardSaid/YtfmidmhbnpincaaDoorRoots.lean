/- The tables of roots out of what a row lists, and a world that holds them. -/
import Derived.Test.YtfmidmhbnpincaaDoorCards
import Derived.Test.YtfmidmhbnpincaaDoorTie
import Derived.Test.YtfmidmhbnpincaaDoorShaAll
import Derived.ProofKit
import Derived.OpenShut
import Derived.Deep.DeepHandedRow
import Derived.Lib.LaidTab
import Derived.Stop.LaidErr
namespace Go.Proofs.YtfmidmhbnpincaaDoor
open Go.ChangeShapes Go.WideShapes Go.ChangeAt Go.RowKit
theorem own : ownKnob Tryd.prog.godebug = none := by kernel_rfl
theorem gK : Tryd.prog.globalNamed "thurible/sha.cubeRoots" = some 1 := by kernel_rfl
theorem gKt : (Tryd.prog.globals[1]?).map (·.type) = some 64 := by kernel_rfl
theorem gH : Tryd.prog.globalNamed "thurible/sha.squareRoots" = some 0 := by kernel_rfl
theorem gHt : (Tryd.prog.globals[0]?).map (·.type) = some 60 := by kernel_rfl
theorem c64 : Tryd.prog.cellsOf 64 = 64 := by kernel_rfl
theorem c8 : Tryd.prog.cellsOf 60 = 8 := by kernel_rfl
theorem c1 : Tryd.prog.cellsOf 22 = 1 := by kernel_rfl
def kInts : List Int := kList.map wv
def hInts : List Int := hList.map wv
set_option maxRecDepth 100000 in
theorem kData {H : Type} : Rows.laid_thurible_sha_cubeRoots (H := H) = Lib.tabData .u32 kInts := by
  unfold Rows.laid_thurible_sha_cubeRoots Lib.tabData kInts kList; rfl
theorem hData {H : Type} : Rows.laid_thurible_sha_squareRoots (H := H) = Lib.tabData .u32 hInts := by
  unfold Rows.laid_thurible_sha_squareRoots Lib.tabData hInts hList; rfl
theorem getD_map (l : List (BitVec 32)) (i : Nat) (h : i < l.length) : (l.map wv).getD i 0 = wv (l.getD i 0) := by
  simp [List.getD_eq_getElem?_getD, h]
theorem roots_of_laid {W : World} (h0 : laidMetH Tryd.prog [("thurible/sha.cubeRoots", Rows.laid_thurible_sha_cubeRoots), ("thurible/sha.squareRoots", Rows.laid_thurible_sha_squareRoots)] W) : Roots W := by
  have h : laidMet Tryd.prog [("thurible/sha.cubeRoots", Rows.laid_thurible_sha_cubeRoots), ("thurible/sha.squareRoots", Rows.laid_thurible_sha_squareRoots)] W := h0
  rw [kData, hData] at h
  have t1 : Lib.TabIs Tryd.prog W "thurible/sha.cubeRoots" .u32 kInts := Lib.tabIs_of_head gK gKt Tryd.underlying64 Tryd.underlying22 c1 c64 h
  have t2 : Lib.TabIs Tryd.prog W "thurible/sha.squareRoots" .u32 hInts := Lib.tabIs_of_head gH gHt Tryd.underlying60 Tryd.underlying22 c1 c8 h.tail
  refine ⟨fun i hi => ?_, fun i hi => ?_⟩
  · rw [t2.cell gH i (by simpa [hInts, hList] using hi)]; unfold hInts; rw [getD_map _ _ (by simpa [hList] using hi)]; rfl
  · rw [t1.cell gK i (by simpa [kInts, kList] using hi)]; unfold kInts; rw [getD_map _ _ (by simpa [kList] using hi)]; rfl
def putCells (cs : Array Value) : Obj → Obj
  | .cells _ t frozen => .cells cs t frozen
  | o => o
/-- a world that holds the tables -/
noncomputable def laidWorld (os : Os) : World :=
  { World.holding Tryd.prog os ⟨#[], #[], []⟩ with heap := ((World.holding Tryd.prog os ⟨#[], #[], []⟩).heap.modify 1 (putCells (kInts.map (Value.int .u32)).toArray)).modify 0 (putCells (hInts.map (Value.int .u32)).toArray) }
end Go.Proofs.YtfmidmhbnpincaaDoor
