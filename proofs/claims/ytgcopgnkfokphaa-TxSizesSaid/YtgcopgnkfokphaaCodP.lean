/- Plain: numbers as bytes, lowest first; what codec's functions answer. No program is named here. -/
import Derived.WalkKit
namespace Go.Proofs.Ytgcopgnkfokphaa
open Go.RowKit
def putB (n i : Nat) : UInt8 := UInt8.ofNat (n / 2 ^ (8 * i))
def putL (n w : Nat) : List UInt8 := (List.range w).map (putB n)
def getN (l : List UInt8) : Nat := l.foldr (fun b a => b.toNat + 256 * a) 0
theorem putL_succ (n w : Nat) : putL n (w + 1) = putL n w ++ [putB n w] := by
  unfold putL; rw [List.range_succ, List.map_append]; rfl
theorem putL_len (n w : Nat) : (putL n w).length = w := by simp [putL]
theorem putB_nat (n i : Nat) : (putB n i).toNat = n / 2 ^ (8 * i) % 256 := by
  unfold putB; rw [UInt8.toNat_ofNat']
theorem getN_cons (b : UInt8) (l : List UInt8) : getN (b :: l) = b.toNat + 256 * getN l := rfl
theorem getN_snoc (l : List UInt8) (b : UInt8) : getN (l ++ [b]) = getN l + 2 ^ (8 * l.length) * b.toNat := by
  induction l with
  | nil => simp [getN]
  | cons a l ih =>
    rw [List.cons_append, getN_cons, getN_cons, ih, List.length_cons, Nat.mul_add, Nat.mul_add, Nat.pow_add, ← Nat.add_assoc, ← Nat.mul_assoc, Nat.mul_comm (2 ^ (8 * l.length)) (2 ^ (8 * 1))]
theorem getN_lt (l : List UInt8) : getN l < 2 ^ (8 * l.length) := by
  induction l with
  | nil => simp [getN]
  | cons a l ih =>
    have := a.toNat_lt
    rw [getN_cons, List.length_cons, Nat.mul_add, Nat.pow_add, show 2 ^ (8 * 1) = 256 from rfl]
    omega
theorem getN_putL (n w : Nat) : getN (putL n w) = n % 2 ^ (8 * w) := by
  induction w with
  | zero => simp [putL, getN, Nat.mod_one]
  | succ w ih =>
    rw [putL_succ, getN_snoc, ih, putL_len, putB_nat, Nat.mul_add, Nat.pow_add, show 2 ^ (8 * 1) = 256 from rfl, Nat.mod_mul]
theorem putB_zero (n : Nat) : putB n 0 = UInt8.ofNat n := by simp [putB]
theorem putL_cons (n w : Nat) : putL n (w + 1) = UInt8.ofNat n :: putL (n / 256) w := by
  unfold putL
  rw [List.range_succ_eq_map, List.map_cons, List.map_map, putB_zero]
  congr 1
  apply List.map_congr_left
  intro i _
  simp only [Function.comp, putB, Nat.succ_eq_add_one, Nat.mul_add, Nat.pow_add, Nat.div_div_eq_div_mul]
  rw [Nat.mul_comm (2 ^ (8 * i))]
theorem putL_getN (l : List UInt8) : putL (getN l) l.length = l := by
  induction l with
  | nil => rfl
  | cons b l ih =>
    have hb := b.toNat_lt
    rw [List.length_cons, putL_cons, getN_cons, show (b.toNat + 256 * getN l) / 256 = getN l by omega, ih]
    congr 1
    apply UInt8.toNat_inj.mp
    rw [UInt8.toNat_ofNat']
    omega
theorem getN_or (l : List UInt8) (b : UInt8) (h : l.length < 8) : bits .or .u64 (getN l : Int) (IntKind.u64.wrap ((b.toNat : Int) * 2 ^ (8 * l.length))) = (getN (l ++ [b]) : Int) := by
  have h1 := getN_lt l
  have h2 := getN_lt (l ++ [b])
  have hb := b.toNat_lt
  have h3 : getN (l ++ [b]) < 2 ^ 64 := Nat.lt_of_lt_of_le h2 (Nat.pow_le_pow_right (by omega) (by simp; omega))
  have h4 := getN_snoc l b
  have h5 : getN l < 2 ^ 64 := by omega
  have h6 : 2 ^ (8 * l.length) * b.toNat < 2 ^ 64 := by omega
  have e1 : IntKind.u64.wrap ((b.toNat : Int) * 2 ^ (8 * l.length)) = ((2 ^ (8 * l.length) * b.toNat : Nat) : Int) := by
    have : (b.toNat : Int) * 2 ^ (8 * l.length) = ((2 ^ (8 * l.length) * b.toNat : Nat) : Int) := by push_cast; rw [Int.mul_comm]
    rw [this, IntKind.wrap_u64]; omega
  rw [e1]
  show IntKind.u64.wrap ((BitVec.ofInt 64 ((getN l : Nat) : Int) ||| BitVec.ofInt 64 ((2 ^ (8 * l.length) * b.toNat : Nat) : Int)).toNat : Int) = _
  rw [BitVec.ofInt_natCast, BitVec.ofInt_natCast, BitVec.toNat_or, BitVec.toNat_ofNat, BitVec.toNat_ofNat, Nat.mod_eq_of_lt h5, Nat.mod_eq_of_lt h6, Nat.or_comm, ← Nat.two_pow_add_eq_or_of_lt h1, Nat.add_comm, ← h4, IntKind.wrap_u64]
  omega
def putF (n : Nat) (wd : Int) : List UInt8 := if wd < 1 ∨ 8 < wd then [] else putL n wd.toNat
def cmpL (n : Nat) : List UInt8 := if n < 253 then putL n 1 else if n ≤ 65535 then 253 :: putL n 2 else if n ≤ 4294967295 then 254 :: putL n 4 else 255 :: putL n 8
/-- a number, what is behind it, an error's number -/
def getF (l : List UInt8) (wd : Int) : Nat × List UInt8 × Int := if wd < 1 ∨ 8 < wd then (0, [], 1) else if (l.length : Int) < wd then (0, [], 30) else (getN (l.take wd.toNat), l.drop wd.toNat, 0)
def wideL (b : UInt8) : Nat := if b = 253 then 2 else if b = 254 then 4 else 8
def readF (l : List UInt8) : Nat × List UInt8 × Int :=
  match l with
  | [] => (0, [], 30)
  | b :: t => if b.toNat < 253 then (b.toNat, t, 0) else if t.length < wideL b then (0, [], 30) else if (cmpL (getN (t.take (wideL b)))).length = wideL b + 1 then (getN (t.take (wideL b)), t.drop (wideL b), 0) else (0, [], 31)
def keyF (l : List UInt8) : List UInt8 × List UInt8 × Int := if l.length < 32 then (List.replicate 32 0, [], 30) else (l.take 32, l.drop 32, 0)
end Go.Proofs.Ytgcopgnkfokphaa
