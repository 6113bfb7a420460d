/- Plain: what bytes are filled up to. No program is named here. -/
import Derived.WalkKit
import Derived.Lib.UnsafeStr
import Derived.Lib.AppendStr
namespace Go.Proofs.YtgcopgnkfokphaaDoor
def padZ (n : Nat) : Nat := (119 - n % 64) % 64
def lenB (n i : Nat) : UInt8 := UInt8.ofNat (8 * n / 2 ^ (56 - 8 * i))
theorem lenB_eq (n i : Nat) : ((lenB n i).toNat : Int) = (8 * (n : Int)) / 2 ^ (56 - 8 * i) % 256 := by
  unfold lenB; rw [UInt8.toNat_ofNat']
  simp
def padHead (l : List UInt8) (k : Nat) : List UInt8 := l ++ [128] ++ List.replicate k 0
def padTo (l : List UInt8) (i : Nat) : List UInt8 := padHead l (padZ l.length) ++ (List.range i).map (lenB l.length)
def padL (l : List UInt8) : List UInt8 := padTo l 8
theorem padHead_succ (l : List UInt8) (k : Nat) : padHead l (k + 1) = padHead l k ++ [0] := by simp [padHead, List.replicate_succ']
theorem padTo_succ (l : List UInt8) (i : Nat) : padTo l (i + 1) = padTo l i ++ [lenB l.length i] := by simp [padTo, List.range_succ]
theorem padHead_len (l : List UInt8) (k : Nat) : (padHead l k).length = l.length + 1 + k := by simp [padHead]; omega
theorem padTo_len (l : List UInt8) (i : Nat) : (padTo l i).length = l.length + 1 + padZ l.length + i := by simp [padTo, padHead]; omega
theorem padZ_lt (n : Nat) : padZ n < 64 := Nat.mod_lt _ (by omega)
theorem padL_mod (l : List UInt8) : (padL l).length % 64 = 0 := by
  have := padTo_len l 8; unfold padL; unfold padZ at this; omega
theorem byteCells_snoc (l : List UInt8) (b : UInt8) (c : Int) (h : (b.toNat : Int) = c) : Lib.byteCells l ++ [.int .u8 c] = Lib.byteCells (l ++ [b]) := by
  subst h; simp [Lib.byteCells]
theorem byteCells_len (l : List UInt8) : (Lib.byteCells l).length = l.length := by simp [Lib.byteCells]
end Go.Proofs.YtgcopgnkfokphaaDoor
