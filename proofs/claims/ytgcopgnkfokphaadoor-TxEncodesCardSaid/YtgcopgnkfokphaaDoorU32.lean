/- Plain facts on 32-bit words: 'wv x' is the number that the model keeps for the word x. No program is named here. -/
import Derived.WalkKit
namespace Go.Proofs.YtgcopgnkfokphaaDoor
open Go.RowKit
def wv (x : BitVec 32) : Int := x.toNat
theorem u32_lo (x : BitVec 32) : 0 ≤ wv x := Int.natCast_nonneg _
theorem u32_hi (x : BitVec 32) : wv x < 4294967296 := by have := x.isLt; unfold wv; omega
theorem u32_add (x y : BitVec 32) : (wv x + wv y) % 4294967296 = wv (x + y) := by
  rw [wv, wv, wv, BitVec.toNat_add]; omega
theorem u32_addw (x y : BitVec 32) : IntKind.u32.wrap (wv x + wv y) = wv (x + y) := by
  rw [IntKind.wrap_u32']; exact u32_add x y
theorem u32_add3 (x y z : BitVec 32) : (wv x + wv y + wv z) % 4294967296 = wv (x + y + z) := by rw [← u32_add, ← u32_add]; omega
theorem u32_add4 (x y z v : BitVec 32) : (wv x + wv y + wv z + wv v) % 4294967296 = wv (x + y + z + v) := by rw [← u32_add, ← u32_add, ← u32_add]; omega
theorem ofInt_u32' (x : BitVec 32) : BitVec.ofInt 32 (wv x) = x := by
  unfold wv; rw [BitVec.ofInt_natCast, BitVec.ofNat_toNat]; simp
theorem u32_back (x : BitVec 32) : IntKind.u32.wrap (x.toNat : Int) = wv x := by
  have := x.isLt; rw [IntKind.wrap_u32', wv]; omega
theorem u32_xor (x y : BitVec 32) : bits .xor .u32 (wv x) (wv y) = wv (x ^^^ y) := by
  show IntKind.u32.wrap ((BitVec.ofInt 32 (wv x) ^^^ BitVec.ofInt 32 (wv y)).toNat : Int) = _
  rw [ofInt_u32', ofInt_u32', u32_back]
theorem u32_and (x y : BitVec 32) : bits .and .u32 (wv x) (wv y) = wv (x &&& y) := by
  show IntKind.u32.wrap ((BitVec.ofInt 32 (wv x) &&& BitVec.ofInt 32 (wv y)).toNat : Int) = _
  rw [ofInt_u32', ofInt_u32', u32_back]
theorem u32_or (x y : BitVec 32) : bits .or .u32 (wv x) (wv y) = wv (x ||| y) := by
  show IntKind.u32.wrap ((BitVec.ofInt 32 (wv x) ||| BitVec.ofInt 32 (wv y)).toNat : Int) = _
  rw [ofInt_u32', ofInt_u32', u32_back]
theorem u32_not (x : BitVec 32) : bits .xor .u32 IntKind.u32.max (wv x) = wv (~~~ x) := by
  show IntKind.u32.wrap ((BitVec.ofInt 32 IntKind.u32.max ^^^ BitVec.ofInt 32 (wv x)).toNat : Int) = _
  rw [ofInt_u32', show BitVec.ofInt 32 IntKind.u32.max = BitVec.allOnes 32 from by decide, BitVec.allOnes_xor, u32_back]
theorem u32_not' (x : BitVec 32) : bits .xor .u32 4294967295 (wv x) = wv (~~~ x) := u32_not x
theorem u32_shr (x : BitVec 32) (n : Nat) : wv x / 2 ^ n = wv (x >>> n) := by
  unfold wv; rw [BitVec.toNat_ushiftRight, Nat.shiftRight_eq_div_pow]; simp
theorem u32_shl (x : BitVec 32) (n : Nat) : wv x * 2 ^ n % 4294967296 = wv (x <<< n) := by
  unfold wv; rw [BitVec.toNat_shiftLeft, Nat.shiftLeft_eq]; simp
def ror (x : BitVec 32) (n : Nat) : BitVec 32 := x <<< (32 - n) ||| x >>> n
theorem u64_neg_and (n : Nat) (h1 : 1 ≤ n) (h2 : n ≤ 31) : bits BinOp.and IntKind.u64 (IntKind.u64.wrap (-(n : Int))) 31 = 32 - (n : Int) := by
  rw [u64_and _ _ (by rw [IntKind.wrap_u64]; omega) (by rw [IntKind.wrap_u64]; omega) (by omega) (by omega), IntKind.wrap_u64,
    show ((31 : Int).toNat) = 31 from rfl, nat_mask5]
  omega
theorem ret_int {k : IntKind} {a b : Int} (h : a = b) : Ending.returned (.int k a) = .returned (.int k b) := by rw [h]
def byteW (b : UInt8) : BitVec 32 := BitVec.ofNat 32 b.toNat
theorem u32_byte (b : UInt8) : (b.toNat : Int) % 4294967296 = wv (byteW b) := by
  unfold wv byteW; rw [BitVec.toNat_ofNat]; omega
theorem u32_byte' (b : UInt8) : (b.toNat : Int) = wv (byteW b) := by
  have := b.toNat_lt; unfold wv byteW; rw [BitVec.toNat_ofNat]; omega
/-- the word that four bytes are -/
def beWord (a b c d : UInt8) : BitVec 32 := byteW a <<< 24 ||| byteW b <<< 16 ||| byteW c <<< 8 ||| byteW d
theorem beWord_eq (a b c d : UInt8) : bits BinOp.or IntKind.u32 (bits BinOp.or IntKind.u32 (bits BinOp.or IntKind.u32 ((a.toNat : Int) % 4294967296 * 16777216 % 4294967296)
    ((b.toNat : Int) % 4294967296 * 65536 % 4294967296)) ((c.toNat : Int) % 4294967296 * 256 % 4294967296)) ((d.toNat : Int) % 4294967296) = wv (beWord a b c d) := by
  rw [u32_byte, u32_byte, u32_byte, u32_byte, show (16777216 : Int) = 2 ^ 24 from rfl, show (65536 : Int) = 2 ^ 16 from rfl, show (256 : Int) = 2 ^ 8 from rfl,
    u32_shl, u32_shl, u32_shl, u32_or, u32_or, u32_or]; rfl
/-- the i-th word of bytes -/
def wordL (l : List UInt8) (i : Nat) : BitVec 32 := beWord (l.getD (4 * i) 0) (l.getD (4 * i + 1) 0) (l.getD (4 * i + 2) 0) (l.getD (4 * i + 3) 0)
theorem byte_getD (s : ByteArray) (k : Nat) (h : k < s.size) : s.data.toList.getD k 0 = s[k] := by
  have h' : k < s.data.size := h
  rw [List.getD_eq_getElem?_getD, Array.getElem?_toList, Array.getElem?_eq_getElem h']
  rfl
theorem extract_byte (s : ByteArray) (i j k : Nat) (h : k < (s.extract i j).size) : (s.extract i j)[k] = s.data.toList.getD (i + k) 0 := by
  have h1 := h; rw [ByteArray.size_extract] at h1
  rw [byte_getD s (i + k) (by omega)]
  exact ByteArray.getElem_extract ..
end Go.Proofs.YtgcopgnkfokphaaDoor
