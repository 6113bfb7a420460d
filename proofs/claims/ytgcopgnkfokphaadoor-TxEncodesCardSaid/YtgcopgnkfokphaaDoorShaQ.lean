/- Plain: the bytes of a hash. No program is named here. -/
import Derived.Test.YtgcopgnkfokphaaDoorShaP
import Derived.Test.YtgcopgnkfokphaaDoorGenA
namespace Go.Proofs.YtgcopgnkfokphaaDoor
open Go.RowKit
/-- byte j of a word, the highest first -/
def byteOf (x : BitVec 32) (j : Nat) : UInt8 := UInt8.ofNat (x >>> (24 - 8 * j)).toNat
theorem byteOf_eq (x : BitVec 32) (j : Nat) : wv (x >>> (24 - 8 * j)) % 256 = ((byteOf x j).toNat : Int) := by
  unfold wv byteOf; rw [UInt8.toNat_ofNat']; omega
/-- the 32 bytes of a hash -/
def hashBytes (h : Nat → BitVec 32) : List UInt8 := tab 32 fun j => byteOf (h (j / 4)) (j % 4)
end Go.Proofs.YtgcopgnkfokphaaDoor
